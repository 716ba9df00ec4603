/-
  The walk of BufferBursts.
-/
import Derived.Test.YtbbaehmfadpgeaaBuF
import Derived.Deep.CutRange
namespace Go.Proofs.Ytbbaehmfadpgeaa
open Go.RowKit Go.Shelf
set_option linter.unusedSimpArgs false
/-- a burst of a law: three small numbers -/
structure Tr where
  a0 : Int
  a1 : Int
  a2 : Int
  deriving Inhabited
def trC (W : World) (p : Tr) (b off : Nat) : Prop := W.cell? ⟨b, off, none⟩ = some (.int .u8 p.a0) ∧ W.cell? ⟨b, off + 1, none⟩ = some (.int .u8 p.a1) ∧ W.cell? ⟨b, off + 2, none⟩ = some (.int .u8 p.a2) ∧ U8 p.a0 ∧ U8 p.a1 ∧ U8 p.a2
def TrA (W : World) (v : Value) (ts : List Tr) : Prop := ∃ a cap, v = .slice a ts.length cap ∧ ∀ j, j < ts.length → ∃ b off, a = some ⟨b, off, none⟩ ∧ b < W.heap.size ∧ trC W (ts[j]?.getD default) b (off + j * 3)
theorem trC.keep {W W' : World} {p : Tr} {b off : Nat} (h : trC W p b off) (hb : b < W.heap.size) (hW : Below W.heap.size W W') : trC W' p b off := by
  obtain ⟨h0, h1, h2, h5⟩ := h
  exact ⟨(hW.cell (p := ⟨b, off, none⟩) hb).trans h0, (hW.cell (p := ⟨b, off + 1, none⟩) hb).trans h1, (hW.cell (p := ⟨b, off + 2, none⟩) hb).trans h2, h5⟩
/-- between two records, and between two bursts -/
def BsI (w : World) (b M : Nat) (cap T : Int) (wr : World) : Prop := ∃ (L : List Hd) (S : Nat → Prop) (v : Value), BufAt wr S b M v cap T L ∧ L.length ≤ 256 ∧ Below w.heap.size w wr ∧ (∀ k, S k → w.heap.size ≤ k)
set_option maxRecDepth 100000 in
set_option maxHeartbeats 16000000 in
theorem law_bursts (cv : Int) (hcv : 0 ≤ cv ∧ cv ≤ 65535) (v u : Value) (ps : List Pc) (ts : List Tr) (w : World) (hP : PcA w v ps) (hT : TrA w u ts) : Calls Try.prog 9 #[.int .u16 cv, v, u] w fun e w' => e = .returned (.bool true) ∧ Below w.heap.size w w' := by
  obtain ⟨pa, pc, rfl, hps⟩ := hP
  obtain ⟨ta, tc, rfl, hts⟩ := hT
  have HPS := Lib.hid (show ∀ j, j < ps.length → ∃ (b off : Nat) (p : Pc), pa = some ⟨b, off, none⟩ ∧ (∀ W, Below w.heap.size w W → pcC W p b (off + j * 5)) from fun j hj => by
    obtain ⟨b, off, e, hb, hc⟩ := hps j hj
    exact ⟨b, off, _, e, fun W hW => hc.keep hb hW⟩)
  have HTS := Lib.hid (show ∀ j, j < ts.length → ∃ (b off : Nat) (p : Tr), ta = some ⟨b, off, none⟩ ∧ (∀ W, Below w.heap.size w W → trC W p b (off + j * 3)) from fun j hj => by
    obtain ⟨b, off, e, hb, hc⟩ := hts j hj
    exact ⟨b, off, _, e, fun W hW => hc.keep hb hW⟩)
  clear hps hts
  generalize ps.length = n at *
  generalize ts.length = bn at *
  by_cases hl1 : 30 < n
  · have hli : (30 : Int) < (n : Int) := by omega
    go_enter Try.func9, Try.ntmps9
    go_wp2_with fail
    refine (fine_any _).mono ?_
    rintro e w1 ⟨rfl, hb⟩
    have HB := Lib.hid hb
    clear hb
    go_wp2_with fail
    go_ret
    exact ⟨by first | rfl | simp, HB.out⟩
  have hli : ¬((30 : Int) < (n : Int)) := by omega
  by_cases hl2 : 10 < bn
  · have hli2 : (10 : Int) < (bn : Int) := by omega
    go_enter Try.func9, Try.ntmps9
    go_wp2_with fail
    refine (fine_any _).mono ?_
    rintro e w1 ⟨rfl, hb⟩
    have HB := Lib.hid hb
    clear hb
    go_wp2_with fail
    go_ret
    exact ⟨by first | rfl | simp, HB.out⟩
  have hli2 : ¬((10 : Int) < (bn : Int)) := by omega
  have hn30 : n ≤ 30 := by omega
  have hbn : bn ≤ 10 := by omega
  clear hl1 hl2
  have hwc : IntKind.i64.wrap cv = cv := by rw [IntKind.wrap_i64]; omega
  have hwt : IntKind.i64.wrap (cv % 3000) = cv % 3000 := by rw [IntKind.wrap_i64]; omega
  have hw1 : IntKind.i64.wrap (1 + cv % 3000) = 1 + cv % 3000 := by rw [IntKind.wrap_i64]; omega
  have hcp : 1 ≤ 1 + cv % 3000 ∧ 1 + cv % 3000 ≤ 16777216 := by omega
  have HCP := Lib.hid (show 0 ≤ 1 + cv % 3000 from by omega)
  have c16 := fun W => new_ok (1 + cv % 3000) hcp W
  go_enter Try.func9, Try.ntmps9
  go_wp2_with fail
  refine (c16 _).mono ?_
  rintro e w1 ⟨rfl, hb1, hB1⟩
  clear c16
  have HI0 := Lib.hid (show BsI w (w.heap.size + 1) w.heap.size (1 + cv % 3000) 0 w1 from ⟨[], _, _, hb1, by simp, hB1, fun k hk => by omega⟩)
  clear hb1 hB1 hcp
  obtain ⟨bb, hbb⟩ : ∃ b, b = w.heap.size + 1 := ⟨_, rfl⟩
  obtain ⟨MM, hMM⟩ : ∃ b, b = w.heap.size := ⟨_, rfl⟩
  rw [← hbb] at HI0
  have HI1 := Lib.hid (show BsI w bb MM (1 + cv % 3000) 0 w1 by rw [hMM]; exact HI0.out)
  rw [← hbb]
  clear hbb hMM HI0
  go_wp2_with fail
  go_loopw [9] (fun iv wr => ∃ i : Nat, i ≤ n ∧ iv = .int .i64 i ∧ BsI w bb MM (1 + cv % 3000) 0 wr) (fun iv _ => n - (intOf iv).toNat)
  case atStart => exact ⟨0, Nat.zero_le _, rfl, HI1.out⟩
  case round => as_aux_lemma =>
    obtain ⟨i, hi, rfl, hK⟩ := hrel
    by_cases hlt : i < n
    · obtain ⟨L, S, v, hBF, hLi, hB, hS⟩ := hK
      obtain ⟨pb, off, p, rfl, hp⟩ := HPS.out i hlt
      obtain ⟨q0, q1, q2, q3, q4, u0, u1, u2, u3, u4⟩ := hp wr hB
      have c43 := fun W => record_any p.p0 p.p1 p.p2 p.p3 p.p4 u0 u1 u2 u3 u4 W
      have hok := recP_ok (p0 := p.p0) (p1 := p.p1) (p2 := p.p2) (p4 := p.p4) u3
      obtain ⟨r, hr⟩ : ∃ r, r = recP p.p0 p.p1 p.p2 p.p3 p.p4 := ⟨_, rfl⟩
      rw [← hr] at c43 hok
      unfold vR at c43
      have hii : (i : Int) < (n : Int) := by omega
      have HOK := Lib.hid hok
      have HBF := Lib.hid hBF
      have HLI := Lib.hid hLi
      have HB := Lib.hid hB
      have HS := Lib.hid hS
      clear hok hBF hLi hB hS hr u0 u1 u2 u3 u4 hp
      go_wp2_with fail
      refine (c43 _).mono ?_
      rintro e w3 ⟨rfl, hb⟩
      have HB3 := Lib.hid (HB.out.trans (hb.mono HB.out.size))
      have HBF3 := Lib.hid (HBF.out.below hb)
      clear hb c43 q0 q1 q2 q3 q4
      have c22 := put_total r w3 HBF3.out HCP.out HLI.out HOK.out
      go_wp2_with fail
      refine c22.mono ?_
      rintro e w4 ⟨x, rfl, L2, S2, v2, hb4, hf4, -, hl2⟩
      have HK := Lib.hid (show BsI w bb MM (1 + cv % 3000) 0 w4 from ⟨L2, S2, v2, hb4, hl2, HB3.out.trans (hf4.below (fun k hk => HS.out k hk) HB3.out.size), fun k hk => by
        rcases hf4.own k hk with e | e
        · exact HS.out k e
        · have := HB3.out.size
          omega⟩)
      clear c22 hb4 hf4 hl2
      go_wp2_with fail
      go_roundw
      case rel => exact ⟨i + 1, by omega, by go_num, HK.out⟩
      case measure => simp [intOf]; omega
    · obtain rfl : i = n := Nat.le_antisymm hi (Nat.le_of_not_lt hlt)
      have HK := Lib.hid hK
      clear hK hlt hi
      go_wp2_with fail
      go_loopw [10, 11] (fun tv iv wr => ∃ (i : Nat) (T : Int), i ≤ bn ∧ tv = .int .i64 T ∧ iv = .int .i64 i ∧ 0 ≤ T ∧ T ≤ 255 * i ∧ BsI w bb MM (1 + cv % 3000) T wr) (fun _ iv _ => bn - (intOf iv).toNat)
      case atStart => exact ⟨0, 0, Nat.zero_le _, rfl, rfl, by omega, by omega, HK.out⟩
      case round => as_aux_lemma =>
        obtain ⟨i, T, hi, rfl, rfl, hT0, hTi, hK⟩ := hrel
        obtain ⟨wz, rfl⟩ : ∃ W0, W0 = wr := ⟨_, rfl⟩
        by_cases hlt : i < bn
        · obtain ⟨L, S, v, hBF, hLi, hB, hS⟩ := hK
          obtain ⟨tb, off, p, rfl, hp⟩ := HTS.out i hlt
          obtain ⟨q0, q1, q2, u0, u1, u2⟩ := hp wz hB
          obtain ⟨rm, hrm⟩ : ∃ rm, rm = 4 * p.a0 := ⟨_, rfl⟩
          obtain ⟨T2, hT2⟩ : ∃ T2, T2 = T + p.a1 := ⟨_, rfl⟩
          obtain ⟨wt, hwt2⟩ : ∃ wt, wt = p.a2 := ⟨_, rfl⟩
          unfold U8 at u0 u1 u2
          have hwr : ∀ z, z = 4 * p.a0 → IntKind.i64.wrap z = rm := fun z hz => by rw [IntKind.wrap_i64]; omega
          have hb1 : 0 ≤ rm ∧ rm ≤ 16777216 := by omega
          have hb2 : T ≤ T2 ∧ T2 ≤ 255 * (i + 1) ∧ T2 ≤ 1073741824 := by omega
          have hb3 : 0 ≤ wt ∧ wt ≤ 1073741824 := by omega
          have hwa0 : IntKind.i64.wrap p.a0 = p.a0 := by rw [IntKind.wrap_i64]; omega
          have hwa1 : IntKind.i64.wrap p.a1 = p.a1 := by rw [IntKind.wrap_i64]; omega
          have hwa2 : IntKind.i64.wrap p.a2 = p.a2 := by rw [IntKind.wrap_i64]; omega
          have hwm : IntKind.i64.wrap (4 * p.a0) = 4 * p.a0 := by rw [IntKind.wrap_i64]; omega
          have hwT : IntKind.i64.wrap (T + p.a1) = T + p.a1 := by rw [IntKind.wrap_i64]; omega
          have hii : (i : Int) < (bn : Int) := by omega
          have HBF := Lib.hid hBF
          have HLI := Lib.hid hLi
          have HB := Lib.hid hB
          have HS := Lib.hid hS
          have HB1 := Lib.hid hb1
          have HB2 := Lib.hid hb2
          have HB3 := Lib.hid hb3
          have HT0 := Lib.hid hT0
          have HRM := Lib.hid hrm
          have HT2 := Lib.hid hT2
          have HWT := Lib.hid hwt2
          clear hBF hLi hB hS hp hwr hb1 hb2 hb3 hrm hT2 hwt2
          go_upto_region 14 with fail
          refine wp_region_held_drew (S := fun w' => w'.cell? ⟨tb, off + i * 3, none⟩ = some (Value.int .u8 p.a0) ∧ w'.cell? ⟨tb, off + i * 3 + 2, none⟩ = some (Value.int .u8 p.a2)) (by kernel_rfl) ⟨by simpa [go_sem] using q0, by simpa [go_sem] using q2⟩ (fun hHeld => ?_)
          refine wpAnyH_take (i := 0) (oi := _) (v := Value.slice (some ⟨tb, off, none⟩) bn tc) rfl (by kernel_rfl) (by kernel_rfl) (by kernel_rfl) (fun _ _ _ h => h) (Or.inl ⟨by rfl, fun w' hSw => ?_⟩) hHeld ?_
          · obtain ⟨t0, t1⟩ := hSw
            go_simp
            try simp [*]
            try (intro hh; exfalso; omega)
            try omega
          try simp only [Act.put, List.setIfInBounds_toArray, List.set_cons_zero, List.set_cons_succ, List.getElem_toArray, List.getElem_cons_succ, List.getElem_cons_zero]
          refine wpAnyH_take (i := 1) (oi := _) (v := Value.int .i64 (i : Int)) rfl (by kernel_rfl) (by kernel_rfl) (by kernel_rfl) (fun _ _ _ h => h) (Or.inl ⟨by rfl, fun w' hSw => ?_⟩) hHeld ?_
          · obtain ⟨t0, t1⟩ := hSw
            go_simp
            try simp [*]
            try (intro hh; exfalso; omega)
            try omega
          try simp only [Act.put, List.setIfInBounds_toArray, List.set_cons_zero, List.set_cons_succ, List.getElem_toArray, List.getElem_cons_succ, List.getElem_cons_zero]
          refine wpAnyH_take (i := 2) (oi := _) (v := Value.pointer (some ⟨tb, off + i * 3, none⟩)) rfl (by kernel_rfl) (by kernel_rfl) (by kernel_rfl) (fun _ _ _ h => h) (Or.inl ⟨by rfl, fun w' hSw => ?_⟩) hHeld ?_
          · obtain ⟨t0, t1⟩ := hSw
            go_simp
            try simp [*]
            try (intro hh; exfalso; omega)
            try omega
          try simp only [Act.put, List.setIfInBounds_toArray, List.set_cons_zero, List.set_cons_succ, List.getElem_toArray, List.getElem_cons_succ, List.getElem_cons_zero]
          refine wpAnyH_take (i := 3) (oi := _) (v := Value.pointer (some ⟨tb, off + i * 3, none⟩)) rfl (by kernel_rfl) (by kernel_rfl) (by kernel_rfl) (fun _ _ _ h => h) (Or.inl ⟨by rfl, fun w' hSw => ?_⟩) hHeld ?_
          · obtain ⟨t0, t1⟩ := hSw
            go_simp
            try simp [*]
            try (intro hh; exfalso; omega)
            try omega
          try simp only [Act.put, List.setIfInBounds_toArray, List.set_cons_zero, List.set_cons_succ, List.getElem_toArray, List.getElem_cons_succ, List.getElem_cons_zero]
          refine wpAnyH_take (i := 4) (oi := _) (v := Value.int .u8 p.a0) rfl (by kernel_rfl) (by kernel_rfl) (by kernel_rfl) (fun _ _ _ h => h) (Or.inl ⟨by rfl, fun w' hSw => ?_⟩) hHeld ?_
          · obtain ⟨t0, t1⟩ := hSw
            go_simp
            try simp [*]
            try (intro hh; exfalso; omega)
            try omega
          try simp only [Act.put, List.setIfInBounds_toArray, List.set_cons_zero, List.set_cons_succ, List.getElem_toArray, List.getElem_cons_succ, List.getElem_cons_zero]
          refine wpAnyH_take (i := 5) (oi := _) (v := Value.int .i64 p.a0) rfl (by kernel_rfl) (by kernel_rfl) (by kernel_rfl) (fun _ _ _ h => h) (Or.inl ⟨by rfl, fun w' hSw => ?_⟩) hHeld ?_
          · obtain ⟨t0, t1⟩ := hSw
            go_simp
            try simp [*]
            try (intro hh; exfalso; omega)
            try omega
          try simp only [Act.put, List.setIfInBounds_toArray, List.set_cons_zero, List.set_cons_succ, List.getElem_toArray, List.getElem_cons_succ, List.getElem_cons_zero]
          refine wpAnyH_take (i := 6) (oi := _) (v := Value.int .i64 (4 * p.a0)) rfl (by kernel_rfl) (by kernel_rfl) (by kernel_rfl) (fun _ _ _ h => h) (Or.inl ⟨by rfl, fun w' hSw => ?_⟩) hHeld ?_
          · obtain ⟨t0, t1⟩ := hSw
            go_simp
            try simp [*]
            try (intro hh; exfalso; omega)
            try omega
          try simp only [Act.put, List.setIfInBounds_toArray, List.set_cons_zero, List.set_cons_succ, List.getElem_toArray, List.getElem_cons_succ, List.getElem_cons_zero]
          refine wpAnyH_take (i := 7) (oi := _) (v := Value.slice (some ⟨tb, off, none⟩) bn tc) rfl (by kernel_rfl) (by kernel_rfl) (by kernel_rfl) (fun _ _ _ h => h) (Or.inl ⟨by rfl, fun w' hSw => ?_⟩) hHeld ?_
          · obtain ⟨t0, t1⟩ := hSw
            go_simp
            try simp [*]
            try (intro hh; exfalso; omega)
            try omega
          try simp only [Act.put, List.setIfInBounds_toArray, List.set_cons_zero, List.set_cons_succ, List.getElem_toArray, List.getElem_cons_succ, List.getElem_cons_zero]
          refine wpAnyH_take (i := 8) (oi := _) (v := Value.int .i64 (i : Int)) rfl (by kernel_rfl) (by kernel_rfl) (by kernel_rfl) (fun _ _ _ h => h) (Or.inl ⟨by rfl, fun w' hSw => ?_⟩) hHeld ?_
          · obtain ⟨t0, t1⟩ := hSw
            go_simp
            try simp [*]
            try (intro hh; exfalso; omega)
            try omega
          try simp only [Act.put, List.setIfInBounds_toArray, List.set_cons_zero, List.set_cons_succ, List.getElem_toArray, List.getElem_cons_succ, List.getElem_cons_zero]
          refine wpAnyH_take (i := 9) (oi := _) (v := Value.pointer (some ⟨tb, off + i * 3, none⟩)) rfl (by kernel_rfl) (by kernel_rfl) (by kernel_rfl) (fun _ _ _ h => h) (Or.inl ⟨by rfl, fun w' hSw => ?_⟩) hHeld ?_
          · obtain ⟨t0, t1⟩ := hSw
            go_simp
            try simp [*]
            try (intro hh; exfalso; omega)
            try omega
          try simp only [Act.put, List.setIfInBounds_toArray, List.set_cons_zero, List.set_cons_succ, List.getElem_toArray, List.getElem_cons_succ, List.getElem_cons_zero]
          refine wpAnyH_take (i := 10) (oi := _) (v := Value.pointer (some ⟨tb, off + i * 3 + 2, none⟩)) rfl (by kernel_rfl) (by kernel_rfl) (by kernel_rfl) (fun _ _ _ h => h) (Or.inl ⟨by rfl, fun w' hSw => ?_⟩) hHeld ?_
          · obtain ⟨t0, t1⟩ := hSw
            go_simp
            try simp [*]
            try (intro hh; exfalso; omega)
            try omega
          try simp only [Act.put, List.setIfInBounds_toArray, List.set_cons_zero, List.set_cons_succ, List.getElem_toArray, List.getElem_cons_succ, List.getElem_cons_zero]
          refine wpAnyH_take (i := 11) (oi := _) (v := Value.int .u8 p.a2) rfl (by kernel_rfl) (by kernel_rfl) (by kernel_rfl) (fun _ _ _ h => h) (Or.inl ⟨by rfl, fun w' hSw => ?_⟩) hHeld ?_
          · obtain ⟨t0, t1⟩ := hSw
            go_simp
            try simp [*]
            try (intro hh; exfalso; omega)
            try omega
          try simp only [Act.put, List.setIfInBounds_toArray, List.set_cons_zero, List.set_cons_succ, List.getElem_toArray, List.getElem_cons_succ, List.getElem_cons_zero]
          refine wpAnyH_take (i := 12) (oi := _) (v := Value.int .i64 p.a2) rfl (by kernel_rfl) (by kernel_rfl) (by kernel_rfl) (fun _ _ _ h => h) (Or.inl ⟨by rfl, fun w' hSw => ?_⟩) hHeld ?_
          · obtain ⟨t0, t1⟩ := hSw
            go_simp
            try simp [*]
            try (intro hh; exfalso; omega)
            try omega
          try simp only [Act.put, List.setIfInBounds_toArray, List.set_cons_zero, List.set_cons_succ, List.getElem_toArray, List.getElem_cons_succ, List.getElem_cons_zero]
          refine wpAnyH_take (i := 13) (oi := _) (v := Value.int .i64 (4 * p.a0)) rfl (by kernel_rfl) (by kernel_rfl) (by kernel_rfl) (fun _ _ _ h => h) (Or.inl ⟨by rfl, fun w' hSw => ?_⟩) hHeld ?_
          · obtain ⟨t0, t1⟩ := hSw
            go_simp
            try simp [*]
            try (intro hh; exfalso; omega)
            try omega
          try simp only [Act.put, List.setIfInBounds_toArray, List.set_cons_zero, List.set_cons_succ, List.getElem_toArray, List.getElem_cons_succ, List.getElem_cons_zero]
          refine wpAnyH_take (i := 14) (oi := _) (v := Value.int .i64 p.a2) rfl (by kernel_rfl) (by kernel_rfl) (by kernel_rfl) (fun _ _ _ h => h) (Or.inl ⟨by rfl, fun w' hSw => ?_⟩) hHeld ?_
          · obtain ⟨t0, t1⟩ := hSw
            go_simp
            try simp [*]
            try (intro hh; exfalso; omega)
            try omega
          try simp only [Act.put, List.setIfInBounds_toArray, List.set_cons_zero, List.set_cons_succ, List.getElem_toArray, List.getElem_cons_succ, List.getElem_cons_zero]
          refine wpAnyH_done (by kernel_rfl) ?_ _
          clear hHeld
          go_upto_region 16 with fail
          skip
          have c31 := Held_row wz.drew HBF.out.drew (by have := HLI.out; omega)
          go_wp2_with fail
          refine c31.mono ?_
          rintro e w4 ⟨dv1, rfl, hr1, hb⟩
          clear c31 q0 q1 q2
          have HB4 := Lib.hid (show Below wz.heap.size wz w4 from ((Below.refl _ _).drew).trans hb)
          have HBF4 := Lib.hid (HBF.out.below HB4.out)
          have HR1 := Lib.hid (show w4.ownsRow wz.heap.size 82 7 dv1 L.length (flH L) from hr1)
          have HBw4 := Lib.hid (HB.out.trans (HB4.out.mono HB.out.size))
          have HSl := Lib.hid (show ∀ k, S k → k < wz.heap.size from fun k hk => HBF.out.lt k hk)
          clear hr1 hb
          have c24 := burst_ok rm T2 wt w4 HBF4.out (by have := HLI.out; omega) HB1.out ⟨HB2.out.1, HB2.out.2.2⟩ HT0.out HB3.out
          have he1 : 4 * p.a0 = rm := HRM.out.symm
          have he2 : T + p.a1 = T2 := HT2.out.symm
          have he3 : p.a2 = wt := HWT.out.symm
          go_upto_region 17 with fail
          try rw [he1]
          try rw [he2]
          try rw [he3]
          clear he1 he2 he3 hwm hwT hwa0 hwa1 hwa2
          go_wp2_with fail
          refine c24.mono ?_
          rintro e w5 ⟨dv, rfl, hb5, hf5, hrow⟩
          clear c24
          have HBF5 := Lib.hid hb5
          have HR15 := Lib.hid (row_frs HR1.out hf5 HSl.out)
          have HBw5 := Lib.hid (HBw4.out.trans (hf5.below (fun k hk => HS.out k hk) HBw4.out.size))
          have HRD := Lib.hid hrow
          clear hb5 hf5 hrow HR1 HBF4 HB4
          have c31 := Held_row w5 HBF5.out (by rw [updG_length]; have := HLI.out; omega)
          go_wp2_with fail
          refine c31.mono ?_
          rintro e V ⟨dv2, rfl, hr2, hb⟩
          clear c31
          have HBFV := Lib.hid (HBF5.out.below hb)
          have HBwV := Lib.hid (HBw5.out.trans (hb.mono HBw5.out.size))
          have HH1 := Lib.hid (hsAt_own (row_below HR15.out hb))
          have HH2 := Lib.hid (hsAt_own hr2)
          have HRV := Lib.hid (row_below HRD.out hb)
          clear hr2 hb HBF5 HBw5 HR15 HRD HSl
          obtain ⟨p1, c1, rfl, hc1⟩ := HH1.out.at
          obtain ⟨p2, c2, rfl, hc2⟩ := HH2.out.at
          have HC1 := Lib.hid hc1
          have HC2 := Lib.hid hc2
          clear hc1 hc2 HH1 HH2
          obtain ⟨pd, cd, hdv, hcd⟩ : ∃ pd cd, dv = .slice pd (sndG id T2 wt rm L).length cd ∧ ∀ j, j < (sndG id T2 wt rm L).length → ∃ g z, pd = some ⟨g, 0, none⟩ ∧ (∀ W1, Below V.heap.size V W1 → W1.cell? ⟨g, j, none⟩ = some (.int .i64 z)) ∧ (∀ y, (sndG id T2 wt rm L)[j]? = some y → z = y.r.id) := by
            have hl : (idsL (sndG id T2 wt rm L)).length = (sndG id T2 wt rm L).length := by simp [idsL]
            by_cases h0 : 0 < (sndG id T2 wt rm L).length
            · have hrv := HRV.out
              rw [← hl] at hrv
              obtain ⟨g, c, e, _, hc⟩ := own_cell hrv (by omega)
              rw [hl] at e
              refine ⟨_, c, e, fun j hj => ⟨g, (idsL (sndG id T2 wt rm L))[j]'(by omega), rfl, fun W1 h => ?_, fun y hy => ?_⟩⟩
              · have q := hc j (by omega)
                exact (h.cell (p := ⟨g, j, none⟩) (World.block_lt_of_cell? V _ q)).trans q
              · obtain ⟨h1, h2⟩ := List.getElem?_eq_some_iff.1 hy
                simp [idsL, h2]
            · obtain ⟨p, c, e, _⟩ := own_slice (own_base HRV.out (Nat.zero_le _))
              exact ⟨p, c, e, fun j hj => by omega⟩
          subst hdv
          have HCD := Lib.hid hcd
          clear hcd HRV
          have hul : (updG T2 wt rm L).length = L.length := updG_length _ _ _ _
          rw [hul]
          have HX := Lib.hid (show ∀ k, k < L.length → ∃ (g1 g2 : Nat) (x y : Hd), p1 = some ⟨g1, 0, none⟩ ∧ p2 = some ⟨g2, 0, none⟩ ∧ L[k]? = some x ∧ (updG T2 wt rm L)[k]? = some y ∧ (∀ W1, Below V.heap.size V W1 → (W1.cell? ⟨g1, k * 7, none⟩ = some (Value.int .i64 x.r.id) ∧ W1.cell? ⟨g1, k * 7 + 1, none⟩ = some (Value.int .i64 x.r.cls) ∧ W1.cell? ⟨g1, k * 7 + 2, none⟩ = some (Value.int .i64 x.r.made) ∧ W1.cell? ⟨g1, k * 7 + 3, none⟩ = some (Value.int .i64 x.r.size) ∧ W1.cell? ⟨g1, k * 7 + 4, none⟩ = some (Value.int .i64 x.r.packed) ∧ W1.cell? ⟨g1, k * 7 + 5, none⟩ = some (Value.bool x.small) ∧ W1.cell? ⟨g1, k * 7 + 6, none⟩ = some (Value.int .i64 x.sent)) ∧ (W1.cell? ⟨g2, k * 7, none⟩ = some (Value.int .i64 y.r.id) ∧ W1.cell? ⟨g2, k * 7 + 1, none⟩ = some (Value.int .i64 y.r.cls) ∧ W1.cell? ⟨g2, k * 7 + 2, none⟩ = some (Value.int .i64 y.r.made) ∧ W1.cell? ⟨g2, k * 7 + 3, none⟩ = some (Value.int .i64 y.r.size) ∧ W1.cell? ⟨g2, k * 7 + 4, none⟩ = some (Value.int .i64 y.r.packed) ∧ W1.cell? ⟨g2, k * 7 + 5, none⟩ = some (Value.bool y.small) ∧ W1.cell? ⟨g2, k * 7 + 6, none⟩ = some (Value.int .i64 y.sent))) from fun k hk => by
            obtain ⟨g1, e1, hg1, h3⟩ := HC1.out k hk
            obtain ⟨g2, e2, hg2, h4⟩ := HC2.out k (by omega)
            exact ⟨g1, g2, L[k], (updG T2 wt rm L)[k]'(by omega), e1, e2, List.getElem?_eq_getElem hk, List.getElem?_eq_getElem (by omega), fun W1 h => ⟨⟨(h.cell (p := ⟨g1, k * 7, none⟩) hg1).trans h3.1, (h.cell (p := ⟨g1, k * 7 + 1, none⟩) hg1).trans h3.2.1, (h.cell (p := ⟨g1, k * 7 + 2, none⟩) hg1).trans h3.2.2.1, (h.cell (p := ⟨g1, k * 7 + 3, none⟩) hg1).trans h3.2.2.2.1, (h.cell (p := ⟨g1, k * 7 + 4, none⟩) hg1).trans h3.2.2.2.2.1, (h.cell (p := ⟨g1, k * 7 + 5, none⟩) hg1).trans h3.2.2.2.2.2.1, (h.cell (p := ⟨g1, k * 7 + 6, none⟩) hg1).trans h3.2.2.2.2.2.2⟩, (h.cell (p := ⟨g2, k * 7, none⟩) hg2).trans h4.1, (h.cell (p := ⟨g2, k * 7 + 1, none⟩) hg2).trans h4.2.1, (h.cell (p := ⟨g2, k * 7 + 2, none⟩) hg2).trans h4.2.2.1, (h.cell (p := ⟨g2, k * 7 + 3, none⟩) hg2).trans h4.2.2.2.1, (h.cell (p := ⟨g2, k * 7 + 4, none⟩) hg2).trans h4.2.2.2.2.1, (h.cell (p := ⟨g2, k * 7 + 5, none⟩) hg2).trans h4.2.2.2.2.2.1, (h.cell (p := ⟨g2, k * 7 + 6, none⟩) hg2).trans h4.2.2.2.2.2.2⟩⟩)
          have HYES := Lib.hid (fun k (hk : k < L.length) h => snd_yes (t := T2) (w := wt) (r := rm) hk h)
          have HNO := Lib.hid (fun k (hk : k < L.length) h => snd_no (t := T2) (w := wt) (r := rm) HBF.out.nd hk h)
          have HOKL := Lib.hid HBF.out.ok
          have HLB := Lib.hid (show ∀ k, 0 ≤ lftG id T2 wt rm (L.take k) ∧ lftG id T2 wt rm (L.take k) ≤ rm from fun k => lftG_bd id T2 wt _ rm (fun x hx => by
            have h2 := HOKL.out x (List.mem_of_mem_take hx)
            unfold OkR at h2
            unfold byH id
            split <;> omega) HB1.out.1)
          have HSN := Lib.hid (show ∀ k, (sndG id T2 wt rm (L.take k)).length ≤ L.length from fun k => Nat.le_trans (sndG_len id T2 wt _ rm) (by rw [List.length_take]; omega))
          have HSE := Lib.hid (show (sndG id T2 wt rm (L.take L.length)).length = (sndG id T2 wt rm L).length from by rw [List.take_length])
          have HL0 := Lib.hid (show lftG id T2 wt rm (L.take 0) = rm from rfl)
          have hl256 : L.length ≤ 256 := HLI.out
          obtain ⟨ln, hln⟩ : ∃ m, m = L.length := ⟨_, rfl⟩
          obtain ⟨sn, hsn⟩ : ∃ m, m = (sndG id T2 wt rm L).length := ⟨_, rfl⟩
          have HKV := Lib.hid (show BsI w bb MM (1 + cv % 3000) T2 V from ⟨(updG T2 wt rm L), S, v, HBFV.out, by rw [hul]; exact hl256, HBwV.out, HS.out⟩)
          clear HC1 HC2 hul
          rw [← hln] at hl256 HX HSN HSE
          have HSE0 := Lib.hid hsn
          rw [← hsn] at HCD HSE
          rw [← hln, ← hsn]
          clear HBF HBFV HS HLI hln hsn
          have hlni : (ln : Int) ≤ 256 := by omega
          go_wp2_with fail
          go_loopw [12, 18, 19] (fun rv av kv wr => ∃ k : Nat, k ≤ ln ∧ rv = .int .i64 (lftG id T2 wt rm (L.take k)) ∧ av = .int .i64 (((sndG id T2 wt rm (L.take k)).length : Nat) : Int) ∧ kv = .int .i64 k ∧ Below V.heap.size V wr) (fun _ _ kv _ => ln - (intOf kv).toNat)
          case atStart => exact ⟨0, Nat.zero_le _, by rw [HL0.out], by simp [sndG], rfl, Below.refl _ _⟩
          case round => as_aux_lemma =>
            obtain ⟨k, hk, rfl, rfl, rfl, hB7⟩ := hrel
            have HB7 := Lib.hid hB7
            clear hB7
            obtain ⟨w7, rfl⟩ : ∃ W0, W0 = wr := ⟨_, rfl⟩
            by_cases hkl : k < ln
            · obtain ⟨g1, g2, x, y, rfl, rfl, hxk, hyk, hxy⟩ := HX.out k hkl
              have hki : (k : Int) < (ln : Int) := by omega
              have hlb := HLB.out k
              have hsn := HSN.out k
              have hsn1 := HSN.out (k + 1)
              have hLk : L[k]? = some x := hxk
              have HXC := Lib.hid (fun W1 h => (hxy W1 h).1)
              have HYC := Lib.hid (fun W1 h => (hxy W1 h).2)
              have hby : 0 ≤ byH x ∧ byH x ≤ 16777216 := by
                have h2 := HOKL.out x (List.mem_of_getElem? hxk)
                unfold OkR at h2
                unfold byH
                split <;> omega
              obtain ⟨lf, hlf⟩ : ∃ lf, lf = lftG id T2 wt rm (L.take k) := ⟨_, rfl⟩
              obtain ⟨at0, hat⟩ : ∃ a, a = (sndG id T2 wt rm (L.take k)).length := ⟨_, rfl⟩
              have hlt0 : k < L.length := (List.getElem?_eq_some_iff.1 hxk).1
              have hxe : L[k] = x := (List.getElem?_eq_some_iff.1 hxk).2
              -- what is sent, and what is not
              have HOY := Lib.hid (show okH T2 wt lf x → (sndG id T2 wt rm L)[at0]? = some x ∧ (sndG id T2 wt rm (L.take (k + 1))).length = at0 + 1 ∧ lftG id T2 wt rm (L.take (k + 1)) = lf - byH x ∧ y = { x with sent := T2 } from fun h => by
                have q := HYES.out k hlt0 (by rw [hxe, ← hlf]; exact h)
                rw [hxe, ← hlf, ← hat, hyk] at q
                exact ⟨q.1, q.2.1, q.2.2.1, by simpa using q.2.2.2⟩)
              have HON := Lib.hid (show ¬okH T2 wt lf x → (∀ z, (sndG id T2 wt rm L)[at0]? = some z → z.r.id ≠ x.r.id) ∧ (sndG id T2 wt rm (L.take (k + 1))).length = at0 ∧ lftG id T2 wt rm (L.take (k + 1)) = lf ∧ y = x from fun h => by
                have q := HNO.out k hlt0 (by rw [hxe, ← hlf]; exact h)
                rw [hxe, ← hlf, ← hat, hyk] at q
                exact ⟨q.1, q.2.1, q.2.2.1, by simpa using q.2.2.2⟩)
              rw [← hlf] at hlb
              rw [← hat] at hsn
              rw [← hlf, ← hat]
              have HLF := Lib.hid hlf
              have HAT := Lib.hid hat
              clear hlf hat hxk hyk hxy hlt0 hxe hLk
              obtain ⟨db, hdb⟩ : ∃ d : Bool, d = decide (x.sent = -1 ∨ x.sent ≤ T2 - wt) := ⟨_, rfl⟩
              have HDB := Lib.hid hdb
              clear hdb
              have hwt3 : IntKind.i64.wrap (T2 - wt) = T2 - wt := by have := HB1.out; have := HB2.out; have := HB3.out; have := HT0.out; rw [IntKind.wrap_i64]; omega
              obtain ⟨y0, y1, y2, y3, y4, y5, y6⟩ := HXC.out _ HB7.out
              obtain ⟨A, hA⟩ : ∃ A, A = w7.alloc (.cells #[.int .i64 x.r.id, .int .i64 x.r.cls, .int .i64 x.r.made, .int .i64 x.r.size, .int .i64 x.r.packed, .bool x.small, .int .i64 x.sent] 82) := ⟨_, rfl⟩
              obtain ⟨Bh, hBh⟩ : ∃ B, B = w7.heap.size := ⟨_, rfl⟩
              have hbh : BxH A Bh x := by rw [hA, hBh]; exact BxH.new w7 x
              have HBH := Lib.hid hbh
              have HB9 := Lib.hid (show Below V.heap.size V A by rw [hA]; exact HB7.out.alloc HB7.out.size _)
              have HBHV := Lib.hid (show V.heap.size ≤ Bh by rw [hBh]; exact HB7.out.size)
              have a6 : A.cell? ⟨Bh, 6, none⟩ = some (.int .i64 x.sent) := (cellH hbh 6).trans (by simp)
              clear hbh
              go_upto_region 26 with fail
              rw [← hA, ← hBh]
              clear hA hBh y0 y1 y2 y3 y4 y5 y6
              go_cut [21] from 113 to 128 (fun s21 wc => s21 = Value.bool db ∧ wc = A)
              case first => as_aux_lemma =>
                by_cases hs1 : x.sent = -1
                · have hd : db = true := by rw [HDB.out]; exact decide_eq_true (.inl hs1)
                  subst hd
                  rw [hs1] at a6
                  clear hs1
                  go_wp2_with fail
                  go_meet
                  case rel => exact ⟨by first | rfl | simp, rfl⟩
                · by_cases hs2 : x.sent ≤ T2 - wt
                  · have hd : db = true := by rw [HDB.out]; exact decide_eq_true (.inr hs2)
                    subst hd
                    go_wp2_with fail
                    go_meet
                    case rel => exact ⟨by first | rfl | (simp; done) | (simp; exact hs1) | (simp [hs1]; done), rfl⟩
                  · have hd : db = false := by rw [HDB.out]; exact decide_eq_false (by rintro (h | h); exact hs1 h; exact hs2 h)
                    subst hd
                    have hs3 : T2 - wt < x.sent := by omega
                    go_wp2_with fail
                    go_meet
                    case rel => exact ⟨by first | rfl | (simp; done) | (simp; exact hs1) | (simp [hs1]; done), rfl⟩
              case rest => as_aux_lemma =>
                obtain ⟨rfl, hwc⟩ := hcut
                rw [hwc]
                clear hwc a6
                obtain ⟨w9, hw9⟩ : ∃ W0, W0 = A := ⟨_, rfl⟩
                rw [← hw9] at HBH HB9
                rw [← hw9]
                clear hw9
                obtain ⟨ob, hob⟩ : ∃ o : Bool, o = decide (okH T2 wt lf x) := ⟨_, rfl⟩
                have HOB := Lib.hid hob
                clear hob
                go_upto_region 27 with fail
                go_cut [22] from 128 to 142 (fun s22 wc => s22 = Value.bool ob ∧ BxH wc Bh x ∧ Below V.heap.size V wc)
                case first => as_aux_lemma =>
                  by_cases hok : okH T2 wt lf x
                  · have ho : ob = true := by rw [HOB.out]; exact decide_eq_true hok
                    subst ho
                    have hsa := (HOY.out hok).1
                    have hlt9 : at0 < sn := by
                      obtain ⟨h1, _⟩ := List.getElem?_eq_some_iff.1 hsa
                      have := HSE0.out
                      omega
                    obtain ⟨gs, z, rfl, hgs, hz⟩ := HCD.out at0 hlt9
                    rw [hz x hsa] at hgs
                    have hai : (at0 : Int) < (sn : Int) := by omega
                    clear hz hsa hok
                    refine wp_region_held_drew (S := fun w' => w'.cell? ⟨Bh, 0, none⟩ = some (Value.int .i64 x.r.id) ∧ w'.cell? ⟨gs, at0, none⟩ = some (Value.int .i64 x.r.id)) (by kernel_rfl) ⟨(cellH (show w9.drew.heap[Bh]? = _ from HBH.out) 0).trans (by simp), hgs _ (HB9.out.drew)⟩ (fun hHeld => ?_)
                    refine wpAnyH_take (i := 0) (oi := _) (v := Value.int .i64 (at0 : Int)) rfl (by kernel_rfl) (by kernel_rfl) (by kernel_rfl) (fun _ _ _ h => h) (Or.inl ⟨by rfl, fun w' hSw => ?_⟩) hHeld ?_
                    · obtain ⟨t0, t1⟩ := hSw
                      go_simp
                      try simp [*]
                      try (intro hh; exfalso; omega)
                      try omega
                    try simp only [Act.put, List.setIfInBounds_toArray, List.set_cons_zero, List.set_cons_succ, List.getElem_toArray, List.getElem_cons_succ, List.getElem_cons_zero]
                    refine wpAnyH_take (i := 1) (oi := _) (v := Value.slice (some ⟨gs, 0, none⟩) sn cd) rfl (by kernel_rfl) (by kernel_rfl) (by kernel_rfl) (fun _ _ _ h => h) (Or.inl ⟨by rfl, fun w' hSw => ?_⟩) hHeld ?_
                    · obtain ⟨t0, t1⟩ := hSw
                      go_simp
                      try simp [*]
                      try (intro hh; exfalso; omega)
                      try omega
                    try simp only [Act.put, List.setIfInBounds_toArray, List.set_cons_zero, List.set_cons_succ, List.getElem_toArray, List.getElem_cons_succ, List.getElem_cons_zero]
                    refine wpAnyH_take (i := 2) (oi := _) (v := Value.int .i64 sn) rfl (by kernel_rfl) (by kernel_rfl) (by kernel_rfl) (fun _ _ _ h => h) (Or.inl ⟨by rfl, fun w' hSw => ?_⟩) hHeld ?_
                    · obtain ⟨t0, t1⟩ := hSw
                      go_simp
                      try simp [*]
                      try (intro hh; exfalso; omega)
                      try omega
                    try simp only [Act.put, List.setIfInBounds_toArray, List.set_cons_zero, List.set_cons_succ, List.getElem_toArray, List.getElem_cons_succ, List.getElem_cons_zero]
                    refine wpAnyH_take (i := 3) (oi := _) (v := Value.bool true) rfl (by kernel_rfl) (by kernel_rfl) (by kernel_rfl) (fun _ _ _ h => h) (Or.inl ⟨by rfl, fun w' hSw => ?_⟩) hHeld ?_
                    · obtain ⟨t0, t1⟩ := hSw
                      go_simp
                      try simp [*]
                      try (intro hh; exfalso; omega)
                      try omega
                    try simp only [Act.put, List.setIfInBounds_toArray, List.set_cons_zero, List.set_cons_succ, List.getElem_toArray, List.getElem_cons_succ, List.getElem_cons_zero]
                    refine wpAnyH_take (i := 4) (oi := _) (v := Value.bool true) rfl (by kernel_rfl) (by kernel_rfl) (by kernel_rfl) (fun _ _ _ h => h) (Or.inl ⟨by rfl, fun w' hSw => ?_⟩) hHeld ?_
                    · obtain ⟨t0, t1⟩ := hSw
                      go_simp
                      try simp [*]
                      try (intro hh; exfalso; omega)
                      try omega
                    try simp only [Act.put, List.setIfInBounds_toArray, List.set_cons_zero, List.set_cons_succ, List.getElem_toArray, List.getElem_cons_succ, List.getElem_cons_zero]
                    refine wpAnyH_take (i := 5) (oi := _) (v := Value.slice (some ⟨gs, 0, none⟩) sn cd) rfl (by kernel_rfl) (by kernel_rfl) (by kernel_rfl) (fun _ _ _ h => h) (Or.inl ⟨by rfl, fun w' hSw => ?_⟩) hHeld ?_
                    · obtain ⟨t0, t1⟩ := hSw
                      go_simp
                      try simp [*]
                      try (intro hh; exfalso; omega)
                      try omega
                    try simp only [Act.put, List.setIfInBounds_toArray, List.set_cons_zero, List.set_cons_succ, List.getElem_toArray, List.getElem_cons_succ, List.getElem_cons_zero]
                    refine wpAnyH_take (i := 6) (oi := _) (v := Value.int .i64 (at0 : Int)) rfl (by kernel_rfl) (by kernel_rfl) (by kernel_rfl) (fun _ _ _ h => h) (Or.inl ⟨by rfl, fun w' hSw => ?_⟩) hHeld ?_
                    · obtain ⟨t0, t1⟩ := hSw
                      go_simp
                      try simp [*]
                      try (intro hh; exfalso; omega)
                      try omega
                    try simp only [Act.put, List.setIfInBounds_toArray, List.set_cons_zero, List.set_cons_succ, List.getElem_toArray, List.getElem_cons_succ, List.getElem_cons_zero]
                    refine wpAnyH_take (i := 7) (oi := _) (v := Value.pointer (some ⟨gs, at0, none⟩)) rfl (by kernel_rfl) (by kernel_rfl) (by kernel_rfl) (fun _ _ _ h => h) (Or.inl ⟨by rfl, fun w' hSw => ?_⟩) hHeld ?_
                    · obtain ⟨t0, t1⟩ := hSw
                      go_simp
                      try simp [*]
                      try (intro hh; exfalso; omega)
                      try omega
                    try simp only [Act.put, List.setIfInBounds_toArray, List.set_cons_zero, List.set_cons_succ, List.getElem_toArray, List.getElem_cons_succ, List.getElem_cons_zero]
                    refine wpAnyH_take (i := 8) (oi := _) (v := Value.int .i64 x.r.id) rfl (by kernel_rfl) (by kernel_rfl) (by kernel_rfl) (fun _ _ _ h => h) (Or.inl ⟨by rfl, fun w' hSw => ?_⟩) hHeld ?_
                    · obtain ⟨t0, t1⟩ := hSw
                      go_simp
                      try simp [*]
                      try (intro hh; exfalso; omega)
                      try omega
                    try simp only [Act.put, List.setIfInBounds_toArray, List.set_cons_zero, List.set_cons_succ, List.getElem_toArray, List.getElem_cons_succ, List.getElem_cons_zero]
                    refine wpAnyH_take (i := 9) (oi := _) (v := Value.pointer (some ⟨Bh, 0, none⟩)) rfl (by kernel_rfl) (by kernel_rfl) (by kernel_rfl) (fun _ _ _ h => h) (Or.inl ⟨by rfl, fun w' hSw => ?_⟩) hHeld ?_
                    · obtain ⟨t0, t1⟩ := hSw
                      go_simp
                      try simp [*]
                      try (intro hh; exfalso; omega)
                      try omega
                    try simp only [Act.put, List.setIfInBounds_toArray, List.set_cons_zero, List.set_cons_succ, List.getElem_toArray, List.getElem_cons_succ, List.getElem_cons_zero]
                    refine wpAnyH_take (i := 10) (oi := _) (v := Value.pointer (some ⟨Bh, 0, none⟩)) rfl (by kernel_rfl) (by kernel_rfl) (by kernel_rfl) (fun _ _ _ h => h) (Or.inl ⟨by rfl, fun w' hSw => ?_⟩) hHeld ?_
                    · obtain ⟨t0, t1⟩ := hSw
                      go_simp
                      try simp [*]
                      try (intro hh; exfalso; omega)
                      try omega
                    try simp only [Act.put, List.setIfInBounds_toArray, List.set_cons_zero, List.set_cons_succ, List.getElem_toArray, List.getElem_cons_succ, List.getElem_cons_zero]
                    refine wpAnyH_take (i := 11) (oi := _) (v := Value.int .i64 x.r.id) rfl (by kernel_rfl) (by kernel_rfl) (by kernel_rfl) (fun _ _ _ h => h) (Or.inl ⟨by rfl, fun w' hSw => ?_⟩) hHeld ?_
                    · obtain ⟨t0, t1⟩ := hSw
                      go_simp
                      try simp [*]
                      try (intro hh; exfalso; omega)
                      try omega
                    try simp only [Act.put, List.setIfInBounds_toArray, List.set_cons_zero, List.set_cons_succ, List.getElem_toArray, List.getElem_cons_succ, List.getElem_cons_zero]
                    refine wpAnyH_take (i := 12) (oi := _) (v := Value.bool true) rfl (by kernel_rfl) (by kernel_rfl) (by kernel_rfl) (fun _ _ _ h => h) (Or.inl ⟨by rfl, fun w' hSw => ?_⟩) hHeld ?_
                    · obtain ⟨t0, t1⟩ := hSw
                      go_simp
                      try simp [*]
                      try (intro hh; exfalso; omega)
                      try omega
                    try simp only [Act.put, List.setIfInBounds_toArray, List.set_cons_zero, List.set_cons_succ, List.getElem_toArray, List.getElem_cons_succ, List.getElem_cons_zero]
                    refine wpAnyH_take (i := 13) (oi := _) (v := Value.bool true) rfl (by kernel_rfl) (by kernel_rfl) (by kernel_rfl) (fun _ _ _ h => h) (Or.inl ⟨by rfl, fun w' hSw => ?_⟩) hHeld ?_
                    · obtain ⟨t0, t1⟩ := hSw
                      go_simp
                      try simp [*]
                      try (intro hh; exfalso; omega)
                      try omega
                    try simp only [Act.put, List.setIfInBounds_toArray, List.set_cons_zero, List.set_cons_succ, List.getElem_toArray, List.getElem_cons_succ, List.getElem_cons_zero]
                    refine wpAnyH_take (i := 14) (oi := _) (v := Value.bool true) rfl (by kernel_rfl) (by kernel_rfl) (by kernel_rfl) (fun _ _ _ h => h) (Or.inl ⟨by rfl, fun w' hSw => ?_⟩) hHeld ?_
                    · obtain ⟨t0, t1⟩ := hSw
                      go_simp
                      try simp [*]
                      try (intro hh; exfalso; omega)
                      try omega
                    try simp only [Act.put, List.setIfInBounds_toArray, List.set_cons_zero, List.set_cons_succ, List.getElem_toArray, List.getElem_cons_succ, List.getElem_cons_zero]
                    refine wpAnyH_done (by kernel_rfl) ?_ _
                    clear hHeld
                    go_wp2_with fail
                    go_meet
                    case rel => exact ⟨by first | rfl | simp, HBH.out, HB9.out.drew⟩
                  · have ho : ob = false := by rw [HOB.out]; exact decide_eq_false hok
                    subst ho
                    have hsa := (HON.out hok).1
                    by_cases hlt9 : at0 < sn
                    · obtain ⟨gs, z, rfl, hgs, hz⟩ := HCD.out at0 hlt9
                      have hai : (at0 : Int) < (sn : Int) := by omega
                      have hzx : ¬(z = x.r.id) := by
                        have h1 : at0 < (sndG id T2 wt rm L).length := by have := HSE0.out; omega
                        have h2 := List.getElem?_eq_getElem h1
                        rw [hz _ h2]
                        exact hsa _ h2
                      clear hz hsa hok
                      refine wp_region_held_drew (S := fun w' => w'.cell? ⟨Bh, 0, none⟩ = some (Value.int .i64 x.r.id) ∧ w'.cell? ⟨gs, at0, none⟩ = some (Value.int .i64 z)) (by kernel_rfl) ⟨(cellH (show w9.drew.heap[Bh]? = _ from HBH.out) 0).trans (by simp), hgs _ (HB9.out.drew)⟩ (fun hHeld => ?_)
                      refine wpAnyH_take (i := 0) (oi := _) (v := Value.int .i64 (at0 : Int)) rfl (by kernel_rfl) (by kernel_rfl) (by kernel_rfl) (fun _ _ _ h => h) (Or.inl ⟨by rfl, fun w' hSw => ?_⟩) hHeld ?_
                      · obtain ⟨t0, t1⟩ := hSw
                        go_simp
                        try simp [*]
                        try (intro hh; exfalso; omega)
                        try omega
                      try simp only [Act.put, List.setIfInBounds_toArray, List.set_cons_zero, List.set_cons_succ, List.getElem_toArray, List.getElem_cons_succ, List.getElem_cons_zero]
                      refine wpAnyH_take (i := 1) (oi := _) (v := Value.slice (some ⟨gs, 0, none⟩) sn cd) rfl (by kernel_rfl) (by kernel_rfl) (by kernel_rfl) (fun _ _ _ h => h) (Or.inl ⟨by rfl, fun w' hSw => ?_⟩) hHeld ?_
                      · obtain ⟨t0, t1⟩ := hSw
                        go_simp
                        try simp [*]
                        try (intro hh; exfalso; omega)
                        try omega
                      try simp only [Act.put, List.setIfInBounds_toArray, List.set_cons_zero, List.set_cons_succ, List.getElem_toArray, List.getElem_cons_succ, List.getElem_cons_zero]
                      refine wpAnyH_take (i := 2) (oi := _) (v := Value.int .i64 sn) rfl (by kernel_rfl) (by kernel_rfl) (by kernel_rfl) (fun _ _ _ h => h) (Or.inl ⟨by rfl, fun w' hSw => ?_⟩) hHeld ?_
                      · obtain ⟨t0, t1⟩ := hSw
                        go_simp
                        try simp [*]
                        try (intro hh; exfalso; omega)
                        try omega
                      try simp only [Act.put, List.setIfInBounds_toArray, List.set_cons_zero, List.set_cons_succ, List.getElem_toArray, List.getElem_cons_succ, List.getElem_cons_zero]
                      refine wpAnyH_take (i := 3) (oi := _) (v := Value.bool true) rfl (by kernel_rfl) (by kernel_rfl) (by kernel_rfl) (fun _ _ _ h => h) (Or.inl ⟨by rfl, fun w' hSw => ?_⟩) hHeld ?_
                      · obtain ⟨t0, t1⟩ := hSw
                        go_simp
                        try simp [*]
                        try (intro hh; exfalso; omega)
                        try omega
                      try simp only [Act.put, List.setIfInBounds_toArray, List.set_cons_zero, List.set_cons_succ, List.getElem_toArray, List.getElem_cons_succ, List.getElem_cons_zero]
                      refine wpAnyH_take (i := 4) (oi := _) (v := Value.bool true) rfl (by kernel_rfl) (by kernel_rfl) (by kernel_rfl) (fun _ _ _ h => h) (Or.inl ⟨by rfl, fun w' hSw => ?_⟩) hHeld ?_
                      · obtain ⟨t0, t1⟩ := hSw
                        go_simp
                        try simp [*]
                        try (intro hh; exfalso; omega)
                        try omega
                      try simp only [Act.put, List.setIfInBounds_toArray, List.set_cons_zero, List.set_cons_succ, List.getElem_toArray, List.getElem_cons_succ, List.getElem_cons_zero]
                      refine wpAnyH_take (i := 5) (oi := _) (v := Value.slice (some ⟨gs, 0, none⟩) sn cd) rfl (by kernel_rfl) (by kernel_rfl) (by kernel_rfl) (fun _ _ _ h => h) (Or.inl ⟨by rfl, fun w' hSw => ?_⟩) hHeld ?_
                      · obtain ⟨t0, t1⟩ := hSw
                        go_simp
                        try simp [*]
                        try (intro hh; exfalso; omega)
                        try omega
                      try simp only [Act.put, List.setIfInBounds_toArray, List.set_cons_zero, List.set_cons_succ, List.getElem_toArray, List.getElem_cons_succ, List.getElem_cons_zero]
                      refine wpAnyH_take (i := 6) (oi := _) (v := Value.int .i64 (at0 : Int)) rfl (by kernel_rfl) (by kernel_rfl) (by kernel_rfl) (fun _ _ _ h => h) (Or.inl ⟨by rfl, fun w' hSw => ?_⟩) hHeld ?_
                      · obtain ⟨t0, t1⟩ := hSw
                        go_simp
                        try simp [*]
                        try (intro hh; exfalso; omega)
                        try omega
                      try simp only [Act.put, List.setIfInBounds_toArray, List.set_cons_zero, List.set_cons_succ, List.getElem_toArray, List.getElem_cons_succ, List.getElem_cons_zero]
                      refine wpAnyH_take (i := 7) (oi := _) (v := Value.pointer (some ⟨gs, at0, none⟩)) rfl (by kernel_rfl) (by kernel_rfl) (by kernel_rfl) (fun _ _ _ h => h) (Or.inl ⟨by rfl, fun w' hSw => ?_⟩) hHeld ?_
                      · obtain ⟨t0, t1⟩ := hSw
                        go_simp
                        try simp [*]
                        try (intro hh; exfalso; omega)
                        try omega
                      try simp only [Act.put, List.setIfInBounds_toArray, List.set_cons_zero, List.set_cons_succ, List.getElem_toArray, List.getElem_cons_succ, List.getElem_cons_zero]
                      refine wpAnyH_take (i := 8) (oi := _) (v := Value.int .i64 z) rfl (by kernel_rfl) (by kernel_rfl) (by kernel_rfl) (fun _ _ _ h => h) (Or.inl ⟨by rfl, fun w' hSw => ?_⟩) hHeld ?_
                      · obtain ⟨t0, t1⟩ := hSw
                        go_simp
                        try simp [*]
                        try (intro hh; exfalso; omega)
                        try omega
                      try simp only [Act.put, List.setIfInBounds_toArray, List.set_cons_zero, List.set_cons_succ, List.getElem_toArray, List.getElem_cons_succ, List.getElem_cons_zero]
                      refine wpAnyH_take (i := 9) (oi := _) (v := Value.pointer (some ⟨Bh, 0, none⟩)) rfl (by kernel_rfl) (by kernel_rfl) (by kernel_rfl) (fun _ _ _ h => h) (Or.inl ⟨by rfl, fun w' hSw => ?_⟩) hHeld ?_
                      · obtain ⟨t0, t1⟩ := hSw
                        go_simp
                        try simp [*]
                        try (intro hh; exfalso; omega)
                        try omega
                      try simp only [Act.put, List.setIfInBounds_toArray, List.set_cons_zero, List.set_cons_succ, List.getElem_toArray, List.getElem_cons_succ, List.getElem_cons_zero]
                      refine wpAnyH_take (i := 10) (oi := _) (v := Value.pointer (some ⟨Bh, 0, none⟩)) rfl (by kernel_rfl) (by kernel_rfl) (by kernel_rfl) (fun _ _ _ h => h) (Or.inl ⟨by rfl, fun w' hSw => ?_⟩) hHeld ?_
                      · obtain ⟨t0, t1⟩ := hSw
                        go_simp
                        try simp [*]
                        try (intro hh; exfalso; omega)
                        try omega
                      try simp only [Act.put, List.setIfInBounds_toArray, List.set_cons_zero, List.set_cons_succ, List.getElem_toArray, List.getElem_cons_succ, List.getElem_cons_zero]
                      refine wpAnyH_take (i := 11) (oi := _) (v := Value.int .i64 x.r.id) rfl (by kernel_rfl) (by kernel_rfl) (by kernel_rfl) (fun _ _ _ h => h) (Or.inl ⟨by rfl, fun w' hSw => ?_⟩) hHeld ?_
                      · obtain ⟨t0, t1⟩ := hSw
                        go_simp
                        try simp [*]
                        try (intro hh; exfalso; omega)
                        try omega
                      try simp only [Act.put, List.setIfInBounds_toArray, List.set_cons_zero, List.set_cons_succ, List.getElem_toArray, List.getElem_cons_succ, List.getElem_cons_zero]
                      refine wpAnyH_take (i := 12) (oi := _) (v := Value.bool false) rfl (by kernel_rfl) (by kernel_rfl) (by kernel_rfl) (fun _ _ _ h => h) (Or.inl ⟨by rfl, fun w' hSw => ?_⟩) hHeld ?_
                      · obtain ⟨t0, t1⟩ := hSw
                        go_simp
                        try simp [*]
                        try (intro hh; exfalso; omega)
                        try omega
                      try simp only [Act.put, List.setIfInBounds_toArray, List.set_cons_zero, List.set_cons_succ, List.getElem_toArray, List.getElem_cons_succ, List.getElem_cons_zero]
                      refine wpAnyH_take (i := 13) (oi := _) (v := Value.bool false) rfl (by kernel_rfl) (by kernel_rfl) (by kernel_rfl) (fun _ _ _ h => h) (Or.inl ⟨by rfl, fun w' hSw => ?_⟩) hHeld ?_
                      · obtain ⟨t0, t1⟩ := hSw
                        go_simp
                        try simp [*]
                        try (intro hh; exfalso; omega)
                        try omega
                      try simp only [Act.put, List.setIfInBounds_toArray, List.set_cons_zero, List.set_cons_succ, List.getElem_toArray, List.getElem_cons_succ, List.getElem_cons_zero]
                      refine wpAnyH_take (i := 14) (oi := _) (v := Value.bool false) rfl (by kernel_rfl) (by kernel_rfl) (by kernel_rfl) (fun _ _ _ h => h) (Or.inl ⟨by rfl, fun w' hSw => ?_⟩) hHeld ?_
                      · obtain ⟨t0, t1⟩ := hSw
                        go_simp
                        try simp [*]
                        try (intro hh; exfalso; omega)
                        try omega
                      try simp only [Act.put, List.setIfInBounds_toArray, List.set_cons_zero, List.set_cons_succ, List.getElem_toArray, List.getElem_cons_succ, List.getElem_cons_zero]
                      refine wpAnyH_done (by kernel_rfl) ?_ _
                      clear hHeld
                      go_wp2_with fail
                      go_meet
                      case rel => exact ⟨by first | rfl | simp, HBH.out, HB9.out.drew⟩
                    · have hai : ¬((at0 : Int) < (sn : Int)) := by omega
                      have hai2 : (sn : Int) ≤ (at0 : Int) := by omega
                      clear hsa hok
                      refine wp_region_held_drew (S := fun w' => w'.cell? ⟨Bh, 0, none⟩ = some (Value.int .i64 x.r.id)) (by kernel_rfl) ((cellH (show w9.drew.heap[Bh]? = _ from HBH.out) 0).trans (by simp)) (fun hHeld => ?_)
                      refine wpAnyH_take (i := 0) (oi := _) (v := Value.int .i64 (at0 : Int)) rfl (by kernel_rfl) (by kernel_rfl) (by kernel_rfl) (fun _ _ _ h => h) (Or.inl ⟨by rfl, fun w' hSw => ?_⟩) hHeld ?_
                      · have t0 := hSw
                        go_simp
                        try simp [*]
                        try (intro hh; exfalso; omega)
                        try omega
                      try simp only [Act.put, List.setIfInBounds_toArray, List.set_cons_zero, List.set_cons_succ, List.getElem_toArray, List.getElem_cons_succ, List.getElem_cons_zero]
                      refine wpAnyH_take (i := 1) (oi := _) (v := Value.slice pd sn cd) rfl (by kernel_rfl) (by kernel_rfl) (by kernel_rfl) (fun _ _ _ h => h) (Or.inl ⟨by rfl, fun w' hSw => ?_⟩) hHeld ?_
                      · have t0 := hSw
                        go_simp
                        try simp [*]
                        try (intro hh; exfalso; omega)
                        try omega
                      try simp only [Act.put, List.setIfInBounds_toArray, List.set_cons_zero, List.set_cons_succ, List.getElem_toArray, List.getElem_cons_succ, List.getElem_cons_zero]
                      refine wpAnyH_take (i := 2) (oi := _) (v := Value.int .i64 sn) rfl (by kernel_rfl) (by kernel_rfl) (by kernel_rfl) (fun _ _ _ h => h) (Or.inl ⟨by rfl, fun w' hSw => ?_⟩) hHeld ?_
                      · have t0 := hSw
                        go_simp
                        try simp [*]
                        try (intro hh; exfalso; omega)
                        try omega
                      try simp only [Act.put, List.setIfInBounds_toArray, List.set_cons_zero, List.set_cons_succ, List.getElem_toArray, List.getElem_cons_succ, List.getElem_cons_zero]
                      refine wpAnyH_take (i := 3) (oi := _) (v := Value.bool false) rfl (by kernel_rfl) (by kernel_rfl) (by kernel_rfl) (fun _ _ _ h => h) (Or.inl ⟨by rfl, fun w' hSw => ?_⟩) hHeld ?_
                      · have t0 := hSw
                        go_simp
                        try simp [*]
                        try (intro hh; exfalso; omega)
                        try omega
                      try simp only [Act.put, List.setIfInBounds_toArray, List.set_cons_zero, List.set_cons_succ, List.getElem_toArray, List.getElem_cons_succ, List.getElem_cons_zero]
                      refine wpAnyH_take (i := 4) (oi := _) (v := Value.bool false) rfl (by kernel_rfl) (by kernel_rfl) (by kernel_rfl) (fun _ _ _ h => h) (Or.inl ⟨by rfl, fun w' hSw => ?_⟩) hHeld ?_
                      · have t0 := hSw
                        go_simp
                        try simp [*]
                        try (intro hh; exfalso; omega)
                        try omega
                      try simp only [Act.put, List.setIfInBounds_toArray, List.set_cons_zero, List.set_cons_succ, List.getElem_toArray, List.getElem_cons_succ, List.getElem_cons_zero]
                      refine wpAnyH_take (i := 5) (oi := _) (v := undef) rfl (by kernel_rfl) (by kernel_rfl) (by kernel_rfl) (fun _ _ _ h => h) (Or.inr ⟨by rfl, rfl⟩) hHeld ?_
                      try simp only [Act.put, List.setIfInBounds_toArray, List.set_cons_zero, List.set_cons_succ, List.getElem_toArray, List.getElem_cons_succ, List.getElem_cons_zero]
                      refine wpAnyH_take (i := 6) (oi := _) (v := undef) rfl (by kernel_rfl) (by kernel_rfl) (by kernel_rfl) (fun _ _ _ h => h) (Or.inr ⟨by rfl, rfl⟩) hHeld ?_
                      try simp only [Act.put, List.setIfInBounds_toArray, List.set_cons_zero, List.set_cons_succ, List.getElem_toArray, List.getElem_cons_succ, List.getElem_cons_zero]
                      refine wpAnyH_take (i := 7) (oi := _) (v := undef) rfl (by kernel_rfl) (by kernel_rfl) (by kernel_rfl) (fun _ _ _ h => h) (Or.inr ⟨by rfl, rfl⟩) hHeld ?_
                      try simp only [Act.put, List.setIfInBounds_toArray, List.set_cons_zero, List.set_cons_succ, List.getElem_toArray, List.getElem_cons_succ, List.getElem_cons_zero]
                      refine wpAnyH_take (i := 8) (oi := _) (v := undef) rfl (by kernel_rfl) (by kernel_rfl) (by kernel_rfl) (fun _ _ _ h => h) (Or.inr ⟨by rfl, rfl⟩) hHeld ?_
                      try simp only [Act.put, List.setIfInBounds_toArray, List.set_cons_zero, List.set_cons_succ, List.getElem_toArray, List.getElem_cons_succ, List.getElem_cons_zero]
                      refine wpAnyH_take (i := 9) (oi := _) (v := undef) rfl (by kernel_rfl) (by kernel_rfl) (by kernel_rfl) (fun _ _ _ h => h) (Or.inr ⟨by rfl, rfl⟩) hHeld ?_
                      try simp only [Act.put, List.setIfInBounds_toArray, List.set_cons_zero, List.set_cons_succ, List.getElem_toArray, List.getElem_cons_succ, List.getElem_cons_zero]
                      refine wpAnyH_take (i := 10) (oi := _) (v := undef) rfl (by kernel_rfl) (by kernel_rfl) (by kernel_rfl) (fun _ _ _ h => h) (Or.inr ⟨by rfl, rfl⟩) hHeld ?_
                      try simp only [Act.put, List.setIfInBounds_toArray, List.set_cons_zero, List.set_cons_succ, List.getElem_toArray, List.getElem_cons_succ, List.getElem_cons_zero]
                      refine wpAnyH_take (i := 11) (oi := _) (v := undef) rfl (by kernel_rfl) (by kernel_rfl) (by kernel_rfl) (fun _ _ _ h => h) (Or.inr ⟨by rfl, rfl⟩) hHeld ?_
                      try simp only [Act.put, List.setIfInBounds_toArray, List.set_cons_zero, List.set_cons_succ, List.getElem_toArray, List.getElem_cons_succ, List.getElem_cons_zero]
                      refine wpAnyH_take (i := 12) (oi := _) (v := undef) rfl (by kernel_rfl) (by kernel_rfl) (by kernel_rfl) (fun _ _ _ h => h) (Or.inr ⟨by rfl, rfl⟩) hHeld ?_
                      try simp only [Act.put, List.setIfInBounds_toArray, List.set_cons_zero, List.set_cons_succ, List.getElem_toArray, List.getElem_cons_succ, List.getElem_cons_zero]
                      refine wpAnyH_take (i := 13) (oi := _) (v := Value.bool false) rfl (by kernel_rfl) (by kernel_rfl) (by kernel_rfl) (fun _ _ _ h => h) (Or.inl ⟨by rfl, fun w' hSw => ?_⟩) hHeld ?_
                      · have t0 := hSw
                        go_simp
                        try simp [*]
                        try (intro hh; exfalso; omega)
                        try omega
                      try simp only [Act.put, List.setIfInBounds_toArray, List.set_cons_zero, List.set_cons_succ, List.getElem_toArray, List.getElem_cons_succ, List.getElem_cons_zero]
                      refine wpAnyH_take (i := 14) (oi := _) (v := Value.bool false) rfl (by kernel_rfl) (by kernel_rfl) (by kernel_rfl) (fun _ _ _ h => h) (Or.inl ⟨by rfl, fun w' hSw => ?_⟩) hHeld ?_
                      · have t0 := hSw
                        go_simp
                        try simp [*]
                        try (intro hh; exfalso; omega)
                        try omega
                      try simp only [Act.put, List.setIfInBounds_toArray, List.set_cons_zero, List.set_cons_succ, List.getElem_toArray, List.getElem_cons_succ, List.getElem_cons_zero]
                      refine wpAnyH_done (by kernel_rfl) ?_ _
                      clear hHeld
                      go_wp2_with fail
                      go_meet
                      case rel => exact ⟨by first | rfl | simp, HBH.out, HB9.out.drew⟩
                case rest => as_aux_lemma =>
                  obtain ⟨rfl, hbh, hW⟩ := hcut
                  have HBH2 := Lib.hid hbh
                  have HB10 := Lib.hid hW
                  clear hbh hW
                  obtain ⟨wy, rfl⟩ : ∃ W0, W0 = wc := ⟨_, rfl⟩
                  have c45 := fun W => bytes45_any x W
                  unfold vH at c45
                  have KB := Lib.hid (show ∀ W1, Below wy.heap.size wy W1 → W1.cell? ⟨Bh, 0, none⟩ = some (Value.int .i64 x.r.id) ∧ W1.cell? ⟨Bh, 1, none⟩ = some (Value.int .i64 x.r.cls) ∧ W1.cell? ⟨Bh, 2, none⟩ = some (Value.int .i64 x.r.made) ∧ W1.cell? ⟨Bh, 3, none⟩ = some (Value.int .i64 x.r.size) ∧ W1.cell? ⟨Bh, 4, none⟩ = some (Value.int .i64 x.r.packed) ∧ W1.cell? ⟨Bh, 5, none⟩ = some (Value.bool x.small) ∧ W1.cell? ⟨Bh, 6, none⟩ = some (Value.int .i64 x.sent) from fun W1 h => by
                    have q := HBH2.out.keep h
                    exact ⟨(cellH q 0).trans (by simp), (cellH q 1).trans (by simp), (cellH q 2).trans (by simp), (cellH q 3).trans (by simp), (cellH q 4).trans (by simp), (cellH q 5).trans (by simp), (cellH q 6).trans (by simp)⟩)
                  obtain ⟨b0, b1, b2, b3, b4, b5, b6⟩ := KB.out _ (Below.refl _ _)
                  by_cases hok : okH T2 wt lf x
                  · have ho : ob = true := by rw [HOB.out]; exact decide_eq_true hok
                    subst ho
                    have hd : db = true := by rw [HDB.out]; exact decide_eq_true hok.1
                    subst hd
                    obtain ⟨-, hn2, hn3, hyx⟩ := HOY.out hok
                    have hfit : byH x ≤ lf := hok.2
                    have HN2 := Lib.hid hn2
                    have HN3 := Lib.hid hn3
                    have HYX := Lib.hid hyx
                    clear hok hn2 hn3 hyx
                    have hwl : IntKind.i64.wrap (lf - byH x) = lf - byH x := by have := HB1.out; rw [IntKind.wrap_i64]; omega
                    go_wp2_with fail
                    refine (c45 _).mono ?_
                    rintro e w12 ⟨rfl, hb⟩
                    have HB12 := Lib.hid hb
                    clear hb b0 b1 b2 b3 b4 b5 b6
                    obtain ⟨b0, b1, b2, b3, b4, b5, b6⟩ := KB.out _ HB12.out
                    go_wp2_with fail
                    refine (c45 _).mono ?_
                    rintro e w13 ⟨rfl, hb⟩
                    have HB13 := Lib.hid (HB12.out.trans (hb.mono HB12.out.size))
                    clear hb b0 b1 b2 b3 b4 b5 b6 c45
                    have hX13 := HBH2.out.keep HB13.out
                    have b6 : w13.cell? ⟨Bh, 6, none⟩ = some (.int .i64 x.sent) := (cellH hX13 6).trans (by simp)
                    have bf6 : w13.frozen? ⟨Bh, 6, none⟩ = false := frozH hX13 6
                    obtain ⟨A, hA⟩ : ∃ A, A = w13.setCell ⟨Bh, 6, none⟩ (.int .i64 T2) := ⟨_, rfl⟩
                    have hAX : A.heap[Bh]? = some (.cells #[.int .i64 x.r.id, .int .i64 x.r.cls, .int .i64 x.r.made, .int .i64 x.r.size, .int .i64 x.r.packed, .bool x.small, .int .i64 T2] 82 (0, 0)) := by
                      rw [hA, heap_setCell_same _ _ _ _ _ _ hX13]
                      rfl
                    have hBV : Below V.heap.size V A := by rw [hA]; exact (HB10.out.trans (HB13.out.mono HB10.out.size)).setCell (p := ⟨Bh, 6, none⟩) HBHV.out _
                    have HBV := Lib.hid hBV
                    have HAX := Lib.hid hAX
                    go_upto_region 34 with fail
                    rw [← hA]
                    clear hA hX13 b6 bf6 hAX hBV
                    have KE := Lib.hid (show A.drew.cell? ⟨g2, k * 7, none⟩ = some (Value.int .i64 x.r.id) ∧ A.drew.cell? ⟨g2, k * 7 + 1, none⟩ = some (Value.int .i64 x.r.cls) ∧ A.drew.cell? ⟨g2, k * 7 + 2, none⟩ = some (Value.int .i64 x.r.made) ∧ A.drew.cell? ⟨g2, k * 7 + 3, none⟩ = some (Value.int .i64 x.r.size) ∧ A.drew.cell? ⟨g2, k * 7 + 4, none⟩ = some (Value.int .i64 x.r.packed) ∧ A.drew.cell? ⟨g2, k * 7 + 5, none⟩ = some (Value.bool x.small) ∧ A.drew.cell? ⟨g2, k * 7 + 6, none⟩ = some (Value.int .i64 T2) ∧ A.drew.cell? ⟨Bh, 0, none⟩ = some (Value.int .i64 x.r.id) ∧ A.drew.cell? ⟨Bh, 1, none⟩ = some (Value.int .i64 x.r.cls) ∧ A.drew.cell? ⟨Bh, 2, none⟩ = some (Value.int .i64 x.r.made) ∧ A.drew.cell? ⟨Bh, 3, none⟩ = some (Value.int .i64 x.r.size) ∧ A.drew.cell? ⟨Bh, 4, none⟩ = some (Value.int .i64 x.r.packed) ∧ A.drew.cell? ⟨Bh, 5, none⟩ = some (Value.bool x.small) ∧ A.drew.cell? ⟨Bh, 6, none⟩ = some (Value.int .i64 T2) from by
                      obtain ⟨a0, a1, a2, a3, a4, a5, a6⟩ := HYC.out _ HBV.out.drew
                      rw [HYX.out] at a0 a1 a2 a3 a4 a5 a6
                      exact ⟨a0, a1, a2, a3, a4, a5, a6, (cellH (show A.drew.heap[Bh]? = _ from HAX.out) 0).trans (by simp), (cellH (show A.drew.heap[Bh]? = _ from HAX.out) 1).trans (by simp), (cellH (show A.drew.heap[Bh]? = _ from HAX.out) 2).trans (by simp), (cellH (show A.drew.heap[Bh]? = _ from HAX.out) 3).trans (by simp), (cellH (show A.drew.heap[Bh]? = _ from HAX.out) 4).trans (by simp), (cellH (show A.drew.heap[Bh]? = _ from HAX.out) 5).trans (by simp), (cellH (show A.drew.heap[Bh]? = _ from HAX.out) 6).trans (by simp)⟩)
                    refine wp_region_held_drew (S := fun w' => w'.cell? ⟨g2, k * 7, none⟩ = some (Value.int .i64 x.r.id) ∧ w'.cell? ⟨g2, k * 7 + 1, none⟩ = some (Value.int .i64 x.r.cls) ∧ w'.cell? ⟨g2, k * 7 + 2, none⟩ = some (Value.int .i64 x.r.made) ∧ w'.cell? ⟨g2, k * 7 + 3, none⟩ = some (Value.int .i64 x.r.size) ∧ w'.cell? ⟨g2, k * 7 + 4, none⟩ = some (Value.int .i64 x.r.packed) ∧ w'.cell? ⟨g2, k * 7 + 5, none⟩ = some (Value.bool x.small) ∧ w'.cell? ⟨g2, k * 7 + 6, none⟩ = some (Value.int .i64 T2) ∧ w'.cell? ⟨Bh, 0, none⟩ = some (Value.int .i64 x.r.id) ∧ w'.cell? ⟨Bh, 1, none⟩ = some (Value.int .i64 x.r.cls) ∧ w'.cell? ⟨Bh, 2, none⟩ = some (Value.int .i64 x.r.made) ∧ w'.cell? ⟨Bh, 3, none⟩ = some (Value.int .i64 x.r.size) ∧ w'.cell? ⟨Bh, 4, none⟩ = some (Value.int .i64 x.r.packed) ∧ w'.cell? ⟨Bh, 5, none⟩ = some (Value.bool x.small) ∧ w'.cell? ⟨Bh, 6, none⟩ = some (Value.int .i64 T2)) (by kernel_rfl) KE.out (fun hHeld => ?_)
                    refine wpAnyH_take (i := 0) (oi := _) (v := Value.slice (some ⟨g2, 0, none⟩) ln c2) rfl (by kernel_rfl) (by kernel_rfl) (by kernel_rfl) (fun _ _ _ h => h) (Or.inl ⟨by rfl, fun w' hSw => ?_⟩) hHeld ?_
                    · obtain ⟨t0, t1, t2, t3, t4, t5, t6, t7, t8, t9, t10, t11, t12, t13⟩ := hSw
                      go_simp
                      try simp [*]
                      try (intro hh; exfalso; omega)
                      try omega
                    try simp only [Act.put, List.setIfInBounds_toArray, List.set_cons_zero, List.set_cons_succ, List.getElem_toArray, List.getElem_cons_succ, List.getElem_cons_zero]
                    refine wpAnyH_take (i := 1) (oi := _) (v := Value.int .i64 (k : Int)) rfl (by kernel_rfl) (by kernel_rfl) (by kernel_rfl) (fun _ _ _ h => h) (Or.inl ⟨by rfl, fun w' hSw => ?_⟩) hHeld ?_
                    · obtain ⟨t0, t1, t2, t3, t4, t5, t6, t7, t8, t9, t10, t11, t12, t13⟩ := hSw
                      go_simp
                      try simp [*]
                      try (intro hh; exfalso; omega)
                      try omega
                    try simp only [Act.put, List.setIfInBounds_toArray, List.set_cons_zero, List.set_cons_succ, List.getElem_toArray, List.getElem_cons_succ, List.getElem_cons_zero]
                    refine wpAnyH_take (i := 2) (oi := _) (v := Value.pointer (some ⟨g2, k * 7, none⟩)) rfl (by kernel_rfl) (by kernel_rfl) (by kernel_rfl) (fun _ _ _ h => h) (Or.inl ⟨by rfl, fun w' hSw => ?_⟩) hHeld ?_
                    · obtain ⟨t0, t1, t2, t3, t4, t5, t6, t7, t8, t9, t10, t11, t12, t13⟩ := hSw
                      go_simp
                      try simp [*]
                      try (intro hh; exfalso; omega)
                      try omega
                    try simp only [Act.put, List.setIfInBounds_toArray, List.set_cons_zero, List.set_cons_succ, List.getElem_toArray, List.getElem_cons_succ, List.getElem_cons_zero]
                    refine wpAnyH_take (i := 3) (oi := _) (v := Value.agg #[Value.int .i64 x.r.id, Value.int .i64 x.r.cls, Value.int .i64 x.r.made, Value.int .i64 x.r.size, Value.int .i64 x.r.packed, Value.bool x.small, Value.int .i64 T2]) rfl (by kernel_rfl) (by kernel_rfl) (by kernel_rfl) (fun _ _ _ h => h) (Or.inl ⟨by rfl, fun w' hSw => ?_⟩) hHeld ?_
                    · obtain ⟨t0, t1, t2, t3, t4, t5, t6, t7, t8, t9, t10, t11, t12, t13⟩ := hSw
                      go_simp
                      try simp [*]
                      try (intro hh; exfalso; omega)
                      try omega
                    try simp only [Act.put, List.setIfInBounds_toArray, List.set_cons_zero, List.set_cons_succ, List.getElem_toArray, List.getElem_cons_succ, List.getElem_cons_zero]
                    refine wpAnyH_take (i := 4) (oi := _) (v := Value.agg #[Value.int .i64 x.r.id, Value.int .i64 x.r.cls, Value.int .i64 x.r.made, Value.int .i64 x.r.size, Value.int .i64 x.r.packed, Value.bool x.small, Value.int .i64 T2]) rfl (by kernel_rfl) (by kernel_rfl) (by kernel_rfl) (fun _ _ _ h => h) (Or.inl ⟨by rfl, fun w' hSw => ?_⟩) hHeld ?_
                    · obtain ⟨t0, t1, t2, t3, t4, t5, t6, t7, t8, t9, t10, t11, t12, t13⟩ := hSw
                      go_simp
                      try simp [*]
                      try (intro hh; exfalso; omega)
                      try omega
                    try simp only [Act.put, List.setIfInBounds_toArray, List.set_cons_zero, List.set_cons_succ, List.getElem_toArray, List.getElem_cons_succ, List.getElem_cons_zero]
                    refine wpAnyH_take (i := 5) (oi := _) (v := Value.bool false) rfl (by kernel_rfl) (by kernel_rfl) (by kernel_rfl) (fun _ _ _ h => h) (Or.inl ⟨by rfl, fun w' hSw => ?_⟩) hHeld ?_
                    · obtain ⟨t0, t1, t2, t3, t4, t5, t6, t7, t8, t9, t10, t11, t12, t13⟩ := hSw
                      go_simp
                      try simp [*]
                      try (intro hh; exfalso; omega)
                      try omega
                    try simp only [Act.put, List.setIfInBounds_toArray, List.set_cons_zero, List.set_cons_succ, List.getElem_toArray, List.getElem_cons_succ, List.getElem_cons_zero]
                    refine wpAnyH_done (by kernel_rfl) ?_ _
                    clear hHeld
                    go_wp2_with fail
                    go_roundw
                    case rel => exact ⟨k + 1, by omega, by rw [HN3.out], by rw [HN2.out]; go_num, by go_num, HBV.out.drew⟩
                    case measure => simp [intOf]; omega
                  · have ho : ob = false := by rw [HOB.out]; exact decide_eq_false hok
                    subst ho
                    obtain ⟨-, hn2, hn3, hyx⟩ := HON.out hok
                    have HN2 := Lib.hid hn2
                    have HN3 := Lib.hid hn3
                    have HYX := Lib.hid hyx
                    clear hn2 hn3 hyx
                    by_cases hd1 : x.sent = -1 ∨ x.sent ≤ T2 - wt
                    · have hd : db = true := by rw [HDB.out]; exact decide_eq_true hd1
                      subst hd
                      have hfit : ¬(byH x ≤ lf) := fun h => hok ⟨hd1, h⟩
                      have hfit2 : lf < byH x := by omega
                      clear hok hd1
                      go_wp2_with fail
                      refine (c45 _).mono ?_
                      rintro e w12 ⟨rfl, hb⟩
                      have HB12 := Lib.hid hb
                      clear hb b0 b1 b2 b3 b4 b5 b6 c45
                      have HBV := Lib.hid (HB10.out.trans (HB12.out.mono HB10.out.size))
                      go_upto_region 34 with fail
                      have KE := Lib.hid (show w12.drew.cell? ⟨g2, k * 7, none⟩ = some (Value.int .i64 x.r.id) ∧ w12.drew.cell? ⟨g2, k * 7 + 1, none⟩ = some (Value.int .i64 x.r.cls) ∧ w12.drew.cell? ⟨g2, k * 7 + 2, none⟩ = some (Value.int .i64 x.r.made) ∧ w12.drew.cell? ⟨g2, k * 7 + 3, none⟩ = some (Value.int .i64 x.r.size) ∧ w12.drew.cell? ⟨g2, k * 7 + 4, none⟩ = some (Value.int .i64 x.r.packed) ∧ w12.drew.cell? ⟨g2, k * 7 + 5, none⟩ = some (Value.bool x.small) ∧ w12.drew.cell? ⟨g2, k * 7 + 6, none⟩ = some (Value.int .i64 x.sent) ∧ w12.drew.cell? ⟨Bh, 0, none⟩ = some (Value.int .i64 x.r.id) ∧ w12.drew.cell? ⟨Bh, 1, none⟩ = some (Value.int .i64 x.r.cls) ∧ w12.drew.cell? ⟨Bh, 2, none⟩ = some (Value.int .i64 x.r.made) ∧ w12.drew.cell? ⟨Bh, 3, none⟩ = some (Value.int .i64 x.r.size) ∧ w12.drew.cell? ⟨Bh, 4, none⟩ = some (Value.int .i64 x.r.packed) ∧ w12.drew.cell? ⟨Bh, 5, none⟩ = some (Value.bool x.small) ∧ w12.drew.cell? ⟨Bh, 6, none⟩ = some (Value.int .i64 x.sent) from by
                        obtain ⟨a0, a1, a2, a3, a4, a5, a6⟩ := HYC.out _ HBV.out.drew
                        obtain ⟨d0, d1, d2, d3, d4, d5, d6⟩ := KB.out _ HB12.out.drew
                        rw [HYX.out] at a0 a1 a2 a3 a4 a5 a6
                        exact ⟨a0, a1, a2, a3, a4, a5, a6, d0, d1, d2, d3, d4, d5, d6⟩)
                      refine wp_region_held_drew (S := fun w' => w'.cell? ⟨g2, k * 7, none⟩ = some (Value.int .i64 x.r.id) ∧ w'.cell? ⟨g2, k * 7 + 1, none⟩ = some (Value.int .i64 x.r.cls) ∧ w'.cell? ⟨g2, k * 7 + 2, none⟩ = some (Value.int .i64 x.r.made) ∧ w'.cell? ⟨g2, k * 7 + 3, none⟩ = some (Value.int .i64 x.r.size) ∧ w'.cell? ⟨g2, k * 7 + 4, none⟩ = some (Value.int .i64 x.r.packed) ∧ w'.cell? ⟨g2, k * 7 + 5, none⟩ = some (Value.bool x.small) ∧ w'.cell? ⟨g2, k * 7 + 6, none⟩ = some (Value.int .i64 x.sent) ∧ w'.cell? ⟨Bh, 0, none⟩ = some (Value.int .i64 x.r.id) ∧ w'.cell? ⟨Bh, 1, none⟩ = some (Value.int .i64 x.r.cls) ∧ w'.cell? ⟨Bh, 2, none⟩ = some (Value.int .i64 x.r.made) ∧ w'.cell? ⟨Bh, 3, none⟩ = some (Value.int .i64 x.r.size) ∧ w'.cell? ⟨Bh, 4, none⟩ = some (Value.int .i64 x.r.packed) ∧ w'.cell? ⟨Bh, 5, none⟩ = some (Value.bool x.small) ∧ w'.cell? ⟨Bh, 6, none⟩ = some (Value.int .i64 x.sent)) (by kernel_rfl) KE.out (fun hHeld => ?_)
                      refine wpAnyH_take (i := 0) (oi := _) (v := Value.slice (some ⟨g2, 0, none⟩) ln c2) rfl (by kernel_rfl) (by kernel_rfl) (by kernel_rfl) (fun _ _ _ h => h) (Or.inl ⟨by rfl, fun w' hSw => ?_⟩) hHeld ?_
                      · obtain ⟨t0, t1, t2, t3, t4, t5, t6, t7, t8, t9, t10, t11, t12, t13⟩ := hSw
                        go_simp
                        try simp [*]
                        try (intro hh; exfalso; omega)
                        try omega
                      try simp only [Act.put, List.setIfInBounds_toArray, List.set_cons_zero, List.set_cons_succ, List.getElem_toArray, List.getElem_cons_succ, List.getElem_cons_zero]
                      refine wpAnyH_take (i := 1) (oi := _) (v := Value.int .i64 (k : Int)) rfl (by kernel_rfl) (by kernel_rfl) (by kernel_rfl) (fun _ _ _ h => h) (Or.inl ⟨by rfl, fun w' hSw => ?_⟩) hHeld ?_
                      · obtain ⟨t0, t1, t2, t3, t4, t5, t6, t7, t8, t9, t10, t11, t12, t13⟩ := hSw
                        go_simp
                        try simp [*]
                        try (intro hh; exfalso; omega)
                        try omega
                      try simp only [Act.put, List.setIfInBounds_toArray, List.set_cons_zero, List.set_cons_succ, List.getElem_toArray, List.getElem_cons_succ, List.getElem_cons_zero]
                      refine wpAnyH_take (i := 2) (oi := _) (v := Value.pointer (some ⟨g2, k * 7, none⟩)) rfl (by kernel_rfl) (by kernel_rfl) (by kernel_rfl) (fun _ _ _ h => h) (Or.inl ⟨by rfl, fun w' hSw => ?_⟩) hHeld ?_
                      · obtain ⟨t0, t1, t2, t3, t4, t5, t6, t7, t8, t9, t10, t11, t12, t13⟩ := hSw
                        go_simp
                        try simp [*]
                        try (intro hh; exfalso; omega)
                        try omega
                      try simp only [Act.put, List.setIfInBounds_toArray, List.set_cons_zero, List.set_cons_succ, List.getElem_toArray, List.getElem_cons_succ, List.getElem_cons_zero]
                      refine wpAnyH_take (i := 3) (oi := _) (v := Value.agg #[Value.int .i64 x.r.id, Value.int .i64 x.r.cls, Value.int .i64 x.r.made, Value.int .i64 x.r.size, Value.int .i64 x.r.packed, Value.bool x.small, Value.int .i64 x.sent]) rfl (by kernel_rfl) (by kernel_rfl) (by kernel_rfl) (fun _ _ _ h => h) (Or.inl ⟨by rfl, fun w' hSw => ?_⟩) hHeld ?_
                      · obtain ⟨t0, t1, t2, t3, t4, t5, t6, t7, t8, t9, t10, t11, t12, t13⟩ := hSw
                        go_simp
                        try simp [*]
                        try (intro hh; exfalso; omega)
                        try omega
                      try simp only [Act.put, List.setIfInBounds_toArray, List.set_cons_zero, List.set_cons_succ, List.getElem_toArray, List.getElem_cons_succ, List.getElem_cons_zero]
                      refine wpAnyH_take (i := 4) (oi := _) (v := Value.agg #[Value.int .i64 x.r.id, Value.int .i64 x.r.cls, Value.int .i64 x.r.made, Value.int .i64 x.r.size, Value.int .i64 x.r.packed, Value.bool x.small, Value.int .i64 x.sent]) rfl (by kernel_rfl) (by kernel_rfl) (by kernel_rfl) (fun _ _ _ h => h) (Or.inl ⟨by rfl, fun w' hSw => ?_⟩) hHeld ?_
                      · obtain ⟨t0, t1, t2, t3, t4, t5, t6, t7, t8, t9, t10, t11, t12, t13⟩ := hSw
                        go_simp
                        try simp [*]
                        try (intro hh; exfalso; omega)
                        try omega
                      try simp only [Act.put, List.setIfInBounds_toArray, List.set_cons_zero, List.set_cons_succ, List.getElem_toArray, List.getElem_cons_succ, List.getElem_cons_zero]
                      refine wpAnyH_take (i := 5) (oi := _) (v := Value.bool false) rfl (by kernel_rfl) (by kernel_rfl) (by kernel_rfl) (fun _ _ _ h => h) (Or.inl ⟨by rfl, fun w' hSw => ?_⟩) hHeld ?_
                      · obtain ⟨t0, t1, t2, t3, t4, t5, t6, t7, t8, t9, t10, t11, t12, t13⟩ := hSw
                        go_simp
                        try simp [*]
                        try (intro hh; exfalso; omega)
                        try omega
                      try simp only [Act.put, List.setIfInBounds_toArray, List.set_cons_zero, List.set_cons_succ, List.getElem_toArray, List.getElem_cons_succ, List.getElem_cons_zero]
                      refine wpAnyH_done (by kernel_rfl) ?_ _
                      clear hHeld
                      go_wp2_with fail
                      go_roundw
                      case rel => exact ⟨k + 1, by omega, by rw [HN3.out], by rw [HN2.out], by go_num, HBV.out.drew⟩
                      case measure => simp [intOf]; omega
                    · have hd : db = false := by rw [HDB.out]; exact decide_eq_false hd1
                      subst hd
                      clear hok hd1
                      have HB12 := Lib.hid (Below.refl wy.heap.size wy)
                      clear c45 b0 b1 b2 b3 b4 b5 b6
                      obtain ⟨w12, hw12⟩ : ∃ W0, W0 = wy := ⟨_, rfl⟩
                      skip
                      have HBV := Lib.hid (HB10.out.trans (HB12.out.mono HB10.out.size))
                      go_upto_region 34 with fail
                      have KE := Lib.hid (show wy.drew.cell? ⟨g2, k * 7, none⟩ = some (Value.int .i64 x.r.id) ∧ wy.drew.cell? ⟨g2, k * 7 + 1, none⟩ = some (Value.int .i64 x.r.cls) ∧ wy.drew.cell? ⟨g2, k * 7 + 2, none⟩ = some (Value.int .i64 x.r.made) ∧ wy.drew.cell? ⟨g2, k * 7 + 3, none⟩ = some (Value.int .i64 x.r.size) ∧ wy.drew.cell? ⟨g2, k * 7 + 4, none⟩ = some (Value.int .i64 x.r.packed) ∧ wy.drew.cell? ⟨g2, k * 7 + 5, none⟩ = some (Value.bool x.small) ∧ wy.drew.cell? ⟨g2, k * 7 + 6, none⟩ = some (Value.int .i64 x.sent) ∧ wy.drew.cell? ⟨Bh, 0, none⟩ = some (Value.int .i64 x.r.id) ∧ wy.drew.cell? ⟨Bh, 1, none⟩ = some (Value.int .i64 x.r.cls) ∧ wy.drew.cell? ⟨Bh, 2, none⟩ = some (Value.int .i64 x.r.made) ∧ wy.drew.cell? ⟨Bh, 3, none⟩ = some (Value.int .i64 x.r.size) ∧ wy.drew.cell? ⟨Bh, 4, none⟩ = some (Value.int .i64 x.r.packed) ∧ wy.drew.cell? ⟨Bh, 5, none⟩ = some (Value.bool x.small) ∧ wy.drew.cell? ⟨Bh, 6, none⟩ = some (Value.int .i64 x.sent) from by
                        obtain ⟨a0, a1, a2, a3, a4, a5, a6⟩ := HYC.out _ HBV.out.drew
                        obtain ⟨d0, d1, d2, d3, d4, d5, d6⟩ := KB.out _ HB12.out.drew
                        rw [HYX.out] at a0 a1 a2 a3 a4 a5 a6
                        exact ⟨a0, a1, a2, a3, a4, a5, a6, d0, d1, d2, d3, d4, d5, d6⟩)
                      refine wp_region_held_drew (S := fun w' => w'.cell? ⟨g2, k * 7, none⟩ = some (Value.int .i64 x.r.id) ∧ w'.cell? ⟨g2, k * 7 + 1, none⟩ = some (Value.int .i64 x.r.cls) ∧ w'.cell? ⟨g2, k * 7 + 2, none⟩ = some (Value.int .i64 x.r.made) ∧ w'.cell? ⟨g2, k * 7 + 3, none⟩ = some (Value.int .i64 x.r.size) ∧ w'.cell? ⟨g2, k * 7 + 4, none⟩ = some (Value.int .i64 x.r.packed) ∧ w'.cell? ⟨g2, k * 7 + 5, none⟩ = some (Value.bool x.small) ∧ w'.cell? ⟨g2, k * 7 + 6, none⟩ = some (Value.int .i64 x.sent) ∧ w'.cell? ⟨Bh, 0, none⟩ = some (Value.int .i64 x.r.id) ∧ w'.cell? ⟨Bh, 1, none⟩ = some (Value.int .i64 x.r.cls) ∧ w'.cell? ⟨Bh, 2, none⟩ = some (Value.int .i64 x.r.made) ∧ w'.cell? ⟨Bh, 3, none⟩ = some (Value.int .i64 x.r.size) ∧ w'.cell? ⟨Bh, 4, none⟩ = some (Value.int .i64 x.r.packed) ∧ w'.cell? ⟨Bh, 5, none⟩ = some (Value.bool x.small) ∧ w'.cell? ⟨Bh, 6, none⟩ = some (Value.int .i64 x.sent)) (by kernel_rfl) KE.out (fun hHeld => ?_)
                      refine wpAnyH_take (i := 0) (oi := _) (v := Value.slice (some ⟨g2, 0, none⟩) ln c2) rfl (by kernel_rfl) (by kernel_rfl) (by kernel_rfl) (fun _ _ _ h => h) (Or.inl ⟨by rfl, fun w' hSw => ?_⟩) hHeld ?_
                      · obtain ⟨t0, t1, t2, t3, t4, t5, t6, t7, t8, t9, t10, t11, t12, t13⟩ := hSw
                        go_simp
                        try simp [*]
                        try (intro hh; exfalso; omega)
                        try omega
                      try simp only [Act.put, List.setIfInBounds_toArray, List.set_cons_zero, List.set_cons_succ, List.getElem_toArray, List.getElem_cons_succ, List.getElem_cons_zero]
                      refine wpAnyH_take (i := 1) (oi := _) (v := Value.int .i64 (k : Int)) rfl (by kernel_rfl) (by kernel_rfl) (by kernel_rfl) (fun _ _ _ h => h) (Or.inl ⟨by rfl, fun w' hSw => ?_⟩) hHeld ?_
                      · obtain ⟨t0, t1, t2, t3, t4, t5, t6, t7, t8, t9, t10, t11, t12, t13⟩ := hSw
                        go_simp
                        try simp [*]
                        try (intro hh; exfalso; omega)
                        try omega
                      try simp only [Act.put, List.setIfInBounds_toArray, List.set_cons_zero, List.set_cons_succ, List.getElem_toArray, List.getElem_cons_succ, List.getElem_cons_zero]
                      refine wpAnyH_take (i := 2) (oi := _) (v := Value.pointer (some ⟨g2, k * 7, none⟩)) rfl (by kernel_rfl) (by kernel_rfl) (by kernel_rfl) (fun _ _ _ h => h) (Or.inl ⟨by rfl, fun w' hSw => ?_⟩) hHeld ?_
                      · obtain ⟨t0, t1, t2, t3, t4, t5, t6, t7, t8, t9, t10, t11, t12, t13⟩ := hSw
                        go_simp
                        try simp [*]
                        try (intro hh; exfalso; omega)
                        try omega
                      try simp only [Act.put, List.setIfInBounds_toArray, List.set_cons_zero, List.set_cons_succ, List.getElem_toArray, List.getElem_cons_succ, List.getElem_cons_zero]
                      refine wpAnyH_take (i := 3) (oi := _) (v := Value.agg #[Value.int .i64 x.r.id, Value.int .i64 x.r.cls, Value.int .i64 x.r.made, Value.int .i64 x.r.size, Value.int .i64 x.r.packed, Value.bool x.small, Value.int .i64 x.sent]) rfl (by kernel_rfl) (by kernel_rfl) (by kernel_rfl) (fun _ _ _ h => h) (Or.inl ⟨by rfl, fun w' hSw => ?_⟩) hHeld ?_
                      · obtain ⟨t0, t1, t2, t3, t4, t5, t6, t7, t8, t9, t10, t11, t12, t13⟩ := hSw
                        go_simp
                        try simp [*]
                        try (intro hh; exfalso; omega)
                        try omega
                      try simp only [Act.put, List.setIfInBounds_toArray, List.set_cons_zero, List.set_cons_succ, List.getElem_toArray, List.getElem_cons_succ, List.getElem_cons_zero]
                      refine wpAnyH_take (i := 4) (oi := _) (v := Value.agg #[Value.int .i64 x.r.id, Value.int .i64 x.r.cls, Value.int .i64 x.r.made, Value.int .i64 x.r.size, Value.int .i64 x.r.packed, Value.bool x.small, Value.int .i64 x.sent]) rfl (by kernel_rfl) (by kernel_rfl) (by kernel_rfl) (fun _ _ _ h => h) (Or.inl ⟨by rfl, fun w' hSw => ?_⟩) hHeld ?_
                      · obtain ⟨t0, t1, t2, t3, t4, t5, t6, t7, t8, t9, t10, t11, t12, t13⟩ := hSw
                        go_simp
                        try simp [*]
                        try (intro hh; exfalso; omega)
                        try omega
                      try simp only [Act.put, List.setIfInBounds_toArray, List.set_cons_zero, List.set_cons_succ, List.getElem_toArray, List.getElem_cons_succ, List.getElem_cons_zero]
                      refine wpAnyH_take (i := 5) (oi := _) (v := Value.bool false) rfl (by kernel_rfl) (by kernel_rfl) (by kernel_rfl) (fun _ _ _ h => h) (Or.inl ⟨by rfl, fun w' hSw => ?_⟩) hHeld ?_
                      · obtain ⟨t0, t1, t2, t3, t4, t5, t6, t7, t8, t9, t10, t11, t12, t13⟩ := hSw
                        go_simp
                        try simp [*]
                        try (intro hh; exfalso; omega)
                        try omega
                      try simp only [Act.put, List.setIfInBounds_toArray, List.set_cons_zero, List.set_cons_succ, List.getElem_toArray, List.getElem_cons_succ, List.getElem_cons_zero]
                      refine wpAnyH_done (by kernel_rfl) ?_ _
                      clear hHeld
                      go_wp2_with fail
                      go_roundw
                      case rel => exact ⟨k + 1, by omega, by rw [HN3.out], by rw [HN2.out], by go_num, HBV.out.drew⟩
                      case measure => simp [intOf]; omega
            · obtain rfl : k = ln := Nat.le_antisymm hk (Nat.le_of_not_lt hkl)
              rw [HSE.out]
              clear hkl hk
              have hK3 : BsI w bb MM (1 + cv % 3000) T2 w7 := by
                obtain ⟨L9, S9, v9, h1, h2, h3, h4⟩ := HKV.out
                exact ⟨L9, S9, v9, h1.below HB7.out, h2, h3.trans (HB7.out.mono h3.size), h4⟩
              have HK3 := Lib.hid hK3
              clear hK3
              go_wp2_with fail
              go_roundw
              case rel => exact ⟨i + 1, T2, by omega, rfl, by go_num, by have := HT0.out; have := HB2.out; omega, by have := HB2.out; push_cast; omega, HK3.out⟩
              case measure => simp [intOf]; omega
        · obtain rfl : i = bn := Nat.le_antisymm hi (Nat.le_of_not_lt hlt)
          obtain ⟨L, S, v, hBF, hLi, hB, hS⟩ := hK
          have hwT : IntKind.i64.wrap (T - 1) = T - 1 := by rw [IntKind.wrap_i64]; omega
          have c24 := burst_late 1 (T - 1) 0 wz hBF (by omega) (by omega)
          have HB := Lib.hid hB
          clear hBF hLi hB hS hlt hi
          go_wp2_with fail
          refine c24.mono ?_
          rintro e w5 ⟨rfl, hb⟩
          have HB5 := Lib.hid (HB.out.trans (hb.mono HB.out.size))
          clear hb c24
          go_wp2_with fail
          refine (fine_any _).mono ?_
          rintro e wf ⟨rfl, hb⟩
          have HBF := Lib.hid (HB5.out.trans (hb.mono HB5.out.size))
          clear hb
          go_wp2_with fail
          go_ret
          exact ⟨by first | rfl | simp, HBF.out⟩

end Go.Proofs.Ytbbaehmfadpgeaa

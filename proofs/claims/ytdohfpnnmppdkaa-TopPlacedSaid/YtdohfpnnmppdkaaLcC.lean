/-
  Cables: the place of a fault.
-/
import Derived.Test.YtdohfpnnmppdkaaLcB
import Derived.Test.YtdohfpnnmppdkaaCcA
namespace Go.Proofs.Ytdohfpnnmppdkaa
open Go.RowKit Go.Shelf
set_option linter.unusedSimpArgs false
attribute [local go_sem] Oper.semAt_some
/-- measurements in memory -/
def MsA (n₀ : Nat) (W : World) (v : Value) (l : List Ms) : Prop :=
  ∃ a cap, v = .slice a l.length cap ∧ l.length ≤ cap ∧ ∀ k, k < l.length → ∃ b off, a = some ⟨b, off, none⟩ ∧ b < n₀ ∧ W.cell? ⟨b, off + k * 5, none⟩ = some (.int .i64 (ms l k).kd) ∧ W.cell? ⟨b, off + k * 5 + 1, none⟩ = some (.int .i64 (ms l k).v0) ∧ W.cell? ⟨b, off + k * 5 + 2, none⟩ = some (.int .i64 (ms l k).v1) ∧ W.cell? ⟨b, off + k * 5 + 3, none⟩ = some (.int .i64 (ms l k).b0) ∧ W.cell? ⟨b, off + k * 5 + 4, none⟩ = some (.int .i64 (ms l k).b1)
theorem MsA.mono {n₀ m : Nat} {W W' : World} {v : Value} {l : List Ms} (h : MsA n₀ W v l) (hb : Below n₀ W W') (hm : n₀ ≤ m) : MsA m W' v l := by
  obtain ⟨a, cap, h1, h2, h3⟩ := h
  refine ⟨a, cap, h1, h2, fun k hk => ?_⟩
  obtain ⟨b, off, e, hlt, c0, c1, c2, c3, c4⟩ := h3 k hk
  exact ⟨b, off, e, by omega, (hb.cell (p := ⟨b, _, none⟩) hlt).trans c0, (hb.cell (p := ⟨b, _, none⟩) hlt).trans c1, (hb.cell (p := ⟨b, _, none⟩) hlt).trans c2, (hb.cell (p := ⟨b, _, none⟩) hlt).trans c3, (hb.cell (p := ⟨b, _, none⟩) hlt).trans c4⟩
theorem MsA.at {W W' : World} {v : Value} {l : List Ms} (h : MsA W.heap.size W v l) (hb : Below W.heap.size W W') : MsA W'.heap.size W' v l := h.mono hb hb.size
theorem MsA.form {n₀ : Nat} {W : World} {v : Value} {l : List Ms} (h : MsA n₀ W v l) : ∃ a c, v = .slice a l.length c := by
  obtain ⟨a, c, h, _⟩ := h; exact ⟨a, c, h⟩
theorem locR_nil {l : List Ms} (h : l.length = 0) : locR l = ⟨0, 0, 5⟩ := by rw [locR_def, if_pos h]
theorem locR_many {l : List Ms} (h : 32 < l.length) : locR l = ⟨0, 0, 6⟩ := by rw [locR_def, if_neg (by omega), if_pos h]
theorem locR_err {l : List Ms} (h0 : 0 < l.length) (h : ¬ 32 < l.length) {k : Nat} (hk : k < l.length) (he : errL (l.take k) = 0) (h1 : (dsM (ms l k)).e ≠ 0) : locR l = ⟨0, 0, (dsM (ms l k)).e⟩ := by
  have q := errL_first hk he h1
  rw [locR_def, if_neg (by omega), if_neg h, if_neg (by rw [q]; exact h1), q]
theorem locR_ok {l : List Ms} (h0 : 0 < l.length) (h : ¬ 32 < l.length) (he : errL l = 0) : locR l = if (comL l).2 < (comL l).1 then ⟨0, 0, 16⟩ else ⟨(comL l).1, (comL l).2, 0⟩ := by
  rw [locR_def, if_neg (by omega), if_neg h, if_pos he]
theorem locR_com {l : List Ms} (h0 : 0 < l.length) (h : ¬ 32 < l.length) (he : errL l = 0) :
    (locR l).lo = (if (comN (msF l) (l.length - 1)).2 < (comN (msF l) (l.length - 1)).1 then 0 else (comN (msF l) (l.length - 1)).1) ∧ (locR l).hi = (if (comN (msF l) (l.length - 1)).2 < (comN (msF l) (l.length - 1)).1 then 0 else (comN (msF l) (l.length - 1)).2) ∧ (locR l).e = (if (comN (msF l) (l.length - 1)).2 < (comN (msF l) (l.length - 1)).1 then 16 else 0) := by
  rw [locR_ok h0 h he, comN_all h0]
  split <;> exact ⟨rfl, rfl, rfl⟩
theorem msF_valid {l : List Ms} (he : errL l = 0) {k : Nat} (hk : k < l.length) : vB (msF l k).1 (msF l k).2 = true :=
  dsM_valid (errL_zero.1 he _ (by unfold ms; simp [hk]))
set_option maxRecDepth 100000 in
set_option maxHeartbeats 16000000 in
theorem locate_any (v : Value) (l : List Ms) (w : World) (hM : MsA w.heap.size w v l) :
    Calls Try.prog 46 #[v] w fun e w' => e = .returned (.tuple #[.agg #[.int .i64 (locR l).lo, .int .i64 (locR l).hi], .int .i64 (locR l).e]) ∧ Below w.heap.size w w' := by
  obtain ⟨i0, hi0, hz0, hz1, hz2⟩ := info_parts infoI23
  obtain ⟨a, cap, rfl, hcap, hcc⟩ := hM
  obtain ⟨A, hA⟩ : ∃ A, A = w.alloc (.cells #[.int .i64 0, .int .i64 0] 23) := ⟨_, rfl⟩
  have HBA := Lib.hid (show Below w.heap.size w A by rw [hA]; exact (Below.refl _ _).alloc (Nat.le_refl _) _)
  have HXA := Lib.hid (show Bx2 A w.heap.size (.int .i64 0) (.int .i64 0) by rw [hA]; exact Bx2.new _ _ _)
  have HEND := Lib.hid (show ∀ W u0 u1, Below A.heap.size A W → Below w.heap.size w ((W.setCell ⟨w.heap.size, 0, none⟩ u0).setCell ⟨w.heap.size, 1, none⟩ u1) from fun W u0 u1 h => ((HBA.out.trans (h.mono HBA.out.size)).setCell (p := ⟨w.heap.size, 0, none⟩) (Nat.le_refl _) _).setCell (p := ⟨w.heap.size, 1, none⟩) (Nat.le_refl _) _)
  have KX := Lib.hid (show ∀ W, Below A.heap.size A W → (W.cell? ⟨w.heap.size, 0, none⟩ = some (.int .i64 0) ∧ W.cell? ⟨w.heap.size, 1, none⟩ = some (.int .i64 0)) ∧ (W.frozen? ⟨w.heap.size, 0, none⟩ = false ∧ W.frozen? ⟨w.heap.size, 1, none⟩ = false) ∧ ∀ u0 u1, ((W.setCell ⟨w.heap.size, 0, none⟩ u0).setCell ⟨w.heap.size, 1, none⟩ u1).cell? ⟨w.heap.size, 0, none⟩ = some u0 ∧ ((W.setCell ⟨w.heap.size, 0, none⟩ u0).setCell ⟨w.heap.size, 1, none⟩ u1).cell? ⟨w.heap.size, 1, none⟩ = some u1 from fun W h => by
    have q := HXA.out.keep h
    exact ⟨⟨q.c0, q.c1⟩, ⟨q.f0 0, q.f0 1⟩, fun u0 u1 => ⟨(q.set u0 u1).c0, (q.set u0 u1).c1⟩⟩)
  by_cases h0 : l.length = 0
  · rw [locR_nil h0]
    have h0' : ((l.length : Int) == 0) = true := by rw [h0]; rfl
    obtain ⟨⟨x0, x1⟩, ⟨f0, f1⟩, HS⟩ := KX.out _ (Below.refl _ _)
    have HSS := Lib.hid (HS (.int .i64 0) (.int .i64 0))
    clear hcc hcap HS
    generalize l.length = n at *
    subst h0
    go_enter Try.func46, Try.ntmps46
    go_upto_region 1 with fail
    rw [← hA]
    clear hA
    go_wp2_with fail
    refine bodyPost_ret (v := .tuple #[.agg #[.int .i64 0, .int .i64 0], .int .i64 5]) (by simp [results, Try.results46, go_sem, HSS.out.1, HSS.out.2]) rfl ⟨rfl, HEND.out _ _ _ (Below.refl _ _)⟩
  by_cases h32 : 32 < l.length
  · rw [locR_many h32]
    have h32' : (32 : Int) < (l.length : Int) := by omega
    have h0' : ((l.length : Int) == 0) = false := beq_eq_false_iff_ne.2 (by omega)
    obtain ⟨⟨x0, x1⟩, ⟨f0, f1⟩, HS⟩ := KX.out _ (Below.refl _ _)
    have HSS := Lib.hid (HS (.int .i64 0) (.int .i64 0))
    clear hcc hcap HS h0
    generalize l.length = n at *
    go_enter Try.func46, Try.ntmps46
    go_upto_region 1 with fail
    rw [← hA]
    clear hA
    go_wp2_with fail
    refine bodyPost_ret (v := .tuple #[.agg #[.int .i64 0, .int .i64 0], .int .i64 6]) (by simp [results, Try.results46, go_sem, HSS.out.1, HSS.out.2]) rfl ⟨rfl, HEND.out _ _ _ (Below.refl _ _)⟩
  have h0' : ((l.length : Int) == 0) = false := beq_eq_false_iff_ne.2 (by omega)
  have HC := Lib.hid (show ∀ W k, Below w.heap.size w W → k < l.length → ∃ b off, a = some ⟨b, off, none⟩ ∧ b < w.heap.size ∧ W.cell? ⟨b, off + k * 5, none⟩ = some (.int .i64 (ms l k).kd) ∧ W.cell? ⟨b, off + k * 5 + 1, none⟩ = some (.int .i64 (ms l k).v0) ∧ W.cell? ⟨b, off + k * 5 + 2, none⟩ = some (.int .i64 (ms l k).v1) ∧ W.cell? ⟨b, off + k * 5 + 3, none⟩ = some (.int .i64 (ms l k).b0) ∧ W.cell? ⟨b, off + k * 5 + 4, none⟩ = some (.int .i64 (ms l k).b1) from fun W k hb hk => by
    obtain ⟨b, off, e, hlt, c0, c1, c2, c3, c4⟩ := hcc k hk
    exact ⟨b, off, e, hlt, (hb.cell (p := ⟨b, _, none⟩) hlt).trans c0, (hb.cell (p := ⟨b, _, none⟩) hlt).trans c1, (hb.cell (p := ⟨b, _, none⟩) hlt).trans c2, (hb.cell (p := ⟨b, _, none⟩) hlt).trans c3, (hb.cell (p := ⟨b, _, none⟩) hlt).trans c4⟩)
  have HER := Lib.hid (fun k (hk : k < l.length) he h1 => locR_err (l := l) (by omega) h32 (k := k) hk he h1)
  have HST := Lib.hid (fun k (hk : k < l.length) he h1 => errL_step (l := l) (k := k) hk he h1)
  have HALL := Lib.hid (show errL (l.take l.length) = 0 → errL l = 0 from fun h => by rwa [List.take_length] at h)
  have HCM := Lib.hid (fun he => locR_com (l := l) (by omega) h32 he)
  have c114 := Lib.hid (fun (he : errL l = 0) vv W (hS : Sv W.heap.size W vv (l.length - 1 + 1) (msF l)) => common_any vv (l.length - 1) (by omega) (msF l) (fun k hk => msF_valid he (by omega)) W hS)
  have HSP := Lib.hid (fun k => show spL (msF l) (k + 1) = spL (msF l) k ++ [.int .i64 (dsM (ms l k)).lo, .int .i64 (dsM (ms l k)).hi] from spL_succ (msF l) k)
  have HD := Lib.hid (show ∀ k, dsM (ms l k) = dsS (ms l k).kd (ms l k).v0 (ms l k).v1 (ms l k).b0 (ms l k).b1 from fun _ => rfl)
  clear hcc hcap
  generalize hnn : l.length = n at *
  clear hnn
  have h32' : ¬ (32 : Int) < (n : Int) := by omega
  go_enter Try.func46, Try.ntmps46
  go_upto_region 1 with fail
  rw [← hA]
  clear hA
  go_wp2_with fail
  go_loopw [4, 19] (fun ov iv wr => ∃ k : Nat, k ≤ n ∧ iv = .int .i64 k ∧ errL (l.take k) = 0 ∧ wr.ownsRow A.heap.size 23 2 ov k (spL (msF l) k) ∧ Below A.heap.size A wr) (fun _ iv _ => n - (intOf iv).toNat)
  case atStart => exact ⟨0, Nat.zero_le _, rfl, rfl, World.ownsRow_nil _ _ _ _, Below.refl _ _⟩
  case round =>
    obtain ⟨k, hk, rfl, hel, hrow, hB⟩ := hrel
    have HEL := Lib.hid hel
    have HROW := Lib.hid hrow
    have HB := Lib.hid hB
    obtain ⟨oa, oc, rfl⟩ := own_form hrow
    clear hel hrow hB
    by_cases hlt : k < n
    · have hki : (k : Int) < (n : Int) := by omega
      obtain ⟨b, off, rfl, hbl, c0, c1, c2, c3, c4⟩ := HC.out wr k (HBA.out.trans (HB.out.mono HBA.out.size)) hlt
      have c44 := fun W => distance_any (ms l k).kd (ms l k).v0 (ms l k).v1 (ms l k).b0 (ms l k).b1 W
      rw [← HD.out k] at c44
      have HERk := Lib.hid (fun h1 => HER.out k hlt HEL.out h1)
      have HSTk := Lib.hid (fun h1 => HST.out k hlt HEL.out h1)
      have HSPk := Lib.hid (HSP.out k)
      generalize (dsM (ms l k)).lo = lo at *
      generalize (dsM (ms l k)).hi = hi' at *
      generalize (dsM (ms l k)).e = er at *
      obtain ⟨V, hV⟩ : ∃ V, V = wr.alloc (.cells #[.int .i64 (ms l k).kd, .int .i64 (ms l k).v0, .int .i64 (ms l k).v1, .int .i64 (ms l k).b0, .int .i64 (ms l k).b1] 52) := ⟨_, rfl⟩
      have hbV : Below wr.heap.size wr V := by rw [hV]; exact (Below.refl _ _).alloc (Nat.le_refl _) _
      have hXV : V.heap[wr.heap.size]? = some (.cells #[.int .i64 (ms l k).kd, .int .i64 (ms l k).v0, .int .i64 (ms l k).v1, .int .i64 (ms l k).b0, .int .i64 (ms l k).b1] 52 (0, 0)) := by rw [hV]; exact World.alloc_heap_new _ _
      have HBV := Lib.hid (HB.out.trans (hbV.mono HB.out.size))
      have HROWV := Lib.hid (own_below HROW.out hbV)
      have d0 := cellHB hXV 0
      have d1 := cellHB hXV 1
      have d2 := cellHB hXV 2
      have d3 := cellHB hXV 3
      have d4 := cellHB hXV 4
      go_upto_region 9 with fail
      try rw [← hV]
      clear hV hbV hXV c0 c1 c2 c3 c4
      go_wp2_with fail
      refine (c44 _).mono ?_
      rintro e w3 ⟨rfl, hb3⟩
      have HB3 := Lib.hid (HBV.out.trans (hb3.mono HBV.out.size))
      have HROW3 := Lib.hid (own_below HROWV.out hb3)
      clear hb3 d0 d1 d2 d3 d4
      obtain ⟨U, hU⟩ : ∃ U, U = w3.alloc (.cells #[.int .i64 lo, .int .i64 hi'] 23) := ⟨_, rfl⟩
      have hbU : Below w3.heap.size w3 U := by rw [hU]; exact (Below.refl _ _).alloc (Nat.le_refl _) _
      have HXU := Lib.hid (show Bx2 U w3.heap.size (.int .i64 lo) (.int .i64 hi') by rw [hU]; exact Bx2.new _ _ _)
      have HBU := Lib.hid (HB3.out.trans (hbU.mono HB3.out.size))
      have HROWU := Lib.hid (own_below HROW3.out hbU)
      go_upto_region 10 with fail
      try rw [← hU]
      clear hU hbU
      have z0 := HXU.out.c0
      have z1 := HXU.out.c1
      by_cases he : er = 0
      · subst he
        have HST2 := Lib.hid (HSTk.out rfl)
        go_wp2_with (at_builtin; refine wpList_append_own _ rfl _ _ 36 rfl A.heap.size 23 i0 (.agg #[.int .i64 0, .int .i64 0]) 2 16 Try.underlying36 hi0 hz0 hz1 hz2 rfl (by decide) _ _ _ rfl (HROWU.out.alloc _) ⟨U.heap.size, 0, none⟩ 1 1 [.int .i64 lo, .int .i64 hi'] rfl rfl (two_new _ _ _) (by simp [Value.oneCell']) (by unfold maxLen; omega) (by omega) (by have := HBU.out.size; simp; omega) ?_; intro v' w5 hown' hgrow _; have HG := Lib.hid hgrow; have HO := Lib.hid hown'; obtain ⟨g', cap', rfl⟩ := ownsRow_succ hown'; clear hown' hgrow; have HB5 := Lib.hid (show Below A.heap.size A w5 from (HBU.out.alloc HBU.out.size _).grown HG.out (by have := HBU.out.size; simp; omega) (fun r e => (((HROWU.out.alloc (.cells #[.int .i64 lo, .int .i64 hi'] 23)).lt r e).1))))
        have HR5 := Lib.hid (show w5.ownsRow A.heap.size 23 2 _ (k + 1) (spL (msF l) (k + 1)) by rw [HSPk.out]; exact HO.out)
        go_roundw
        case rel => exact ⟨k + 1, by omega, by go_num, HST2.out, HR5.out, HB5.out⟩
        case measure => simp [intOf]; omega
      · have HRR := Lib.hid (HERk.out he)
        have he' : (er != 0) = true := by simpa using he
        obtain ⟨⟨x0, x1⟩, ⟨f0, f1⟩, HS⟩ := KX.out _ HBU.out
        have HSS := Lib.hid (HS (.int .i64 0) (.int .i64 0))
        clear he HS z0 z1
        go_wp2_with fail
        refine bodyPost_ret (v := .tuple #[.agg #[.int .i64 0, .int .i64 0], .int .i64 er]) (by simp [results, Try.results46, go_sem, HSS.out.1, HSS.out.2]) rfl ⟨by rw [HRR.out], HEND.out _ _ _ HBU.out⟩
    · obtain rfl : k = n := by omega
      have HE0 := Lib.hid (HALL.out HEL.out)
      have hn1 : k - 1 + 1 = k := by omega
      have HCM' := Lib.hid (HCM.out HE0.out)
      have HSV := Lib.hid (sv_of_own HROW.out)
      have c2 := Lib.hid (fun W hS => c114.out HE0.out (.slice oa k oc) W (by rw [hn1]; exact hS))
      clear c114 HCM HALL HER HST HC hn1
      generalize (if (comN (msF l) (k - 1)).2 < (comN (msF l) (k - 1)).1 then (0 : Int) else (comN (msF l) (k - 1)).1) = q0 at *
      generalize (if (comN (msF l) (k - 1)).2 < (comN (msF l) (k - 1)).1 then (0 : Int) else (comN (msF l) (k - 1)).2) = q1 at *
      generalize (if (comN (msF l) (k - 1)).2 < (comN (msF l) (k - 1)).1 then (16 : Int) else 0) = q2 at *
      go_wp2_with fail
      refine (c2.out _ HSV.out).mono ?_
      rintro e w3 ⟨rfl, hb3⟩
      have HB3 := Lib.hid (HB.out.trans (hb3.mono HB.out.size))
      clear hb3
      obtain ⟨⟨x0, x1⟩, ⟨f0, f1⟩, HS⟩ := KX.out _ HB3.out
      have HSS := Lib.hid (HS (.int .i64 q0) (.int .i64 q1))
      clear HS
      go_wp2_with fail
      refine bodyPost_ret (v := .tuple #[.agg #[.int .i64 q0, .int .i64 q1], .int .i64 q2]) (by simp [results, Try.results46, go_sem, HSS.out.1, HSS.out.2]) rfl ⟨by rw [HCM'.out.1, HCM'.out.2.1, HCM'.out.2.2], HEND.out _ _ _ HB3.out⟩
end Go.Proofs.Ytdohfpnnmppdkaa

/-
  Clock: the true time of a stamp in a house.
-/
import Derived.Test.YtcchmjbedppfnaaCkW
namespace Go.Proofs.Ytcchmjbedppfnaa
open Go.RowKit Go.Shelf
set_option linter.unusedSimpArgs false
/-- what is shown on the way up, with so much fuel -/
noncomputable def tmS (ks : List Kc) : Nat → Int → Int × Int → Int × Int
  | 0, _, a => a
  | n + 1, k, a => if k = -1 then a else tmS ks n (kc ks k.toNat).p (upS (kc ks k.toNat).r (kc ks k.toNat).os a)
theorem tmS_root (ks : List Kc) (a : Int × Int) : ∀ n, tmS ks n (-1) a = a
  | 0 => rfl
  | n + 1 => by unfold tmS; rw [if_pos rfl]
theorem tmS_step (ks : List Kc) (k : Nat) (n : Nat) (h : k < n) (a : Int × Int) : tmS ks n (k : Int) a = tmS ks (n - 1) (kc ks k).p (upS (kc ks k).r (kc ks k).os a) := by
  cases n with
  | zero => exact absurd h (Nat.not_lt_zero _)
  | succ n =>
    conv => lhs; unfold tmS
    rw [if_neg (by omega)]
    rfl
/-- what time returns -/
noncomputable def timR (ks : List Kc) (c t : Int) : R3 :=
  if (0 ≤ c ∧ c ≤ (ks.length : Int) - 1) ∧ tmB t = true then ⟨(tmS ks (ks.length + 1) c (t, t)).1, (tmS ks (ks.length + 1) c (t, t)).2, 0⟩ else ⟨0, 0, 3⟩
/-- a house whose clocks are known and have parents before them -/
structure HsOk (ks : List Kc) : Prop where
  len : ks.length ≤ 64
  par : ∀ k, k < ks.length → -1 ≤ (kc ks k).p ∧ (kc ks k).p < (k : Int)
  val : ∀ k, k < ks.length → Valid (kc ks k).r (kc ks k).os
  one : ∀ k, k < ks.length → 1 ≤ (kc ks k).os.length
theorem up_bd {r x y : Int} {os : List Of} {B : Int} (hv : Valid r os) (h1 : 1 ≤ os.length) (hB : 0 ≤ B ∧ B ≤ 4503599627370496) (hx : -B ≤ x ∧ x ≤ B) (hy : -B ≤ y ∧ y ≤ B) : (-(B + 10000000000000) ≤ (upS r os (x, y)).1 ∧ (upS r os (x, y)).1 ≤ B + 10000000000000) ∧ (-(B + 10000000000000) ≤ (upS r os (x, y)).2 ∧ (upS r os (x, y)).2 ≤ B + 10000000000000) := by
  obtain ⟨⟨a1, a2⟩, -, -⟩ := atS_bd (t := x) hv h1 (by omega)
  obtain ⟨-, a3, a4⟩ := atS_bd (t := y) hv h1 (by omega)
  unfold upS
  dsimp only
  omega
set_option maxRecDepth 100000 in
set_option maxHeartbeats 8000000 in
theorem time_any (sv : Value) (ks : List Kc) (c t : Int) (hk : HsOk ks) (w : World) (hK : Kcs w.heap.size w sv ks) :
    Calls Try.prog 99 #[sv, .agg #[.int .i64 c, .int .i64 t]] w fun e w' => e = .returned (timR ks c t).out ∧ Below w.heap.size w w' := by
  obtain ⟨hlen, hpar, hval, hone⟩ := hk
  have c95 := fun W => withinI_any c 0 ((ks.length : Int) - 1) W
  have c80 := fun W => isTime_any t W
  unfold timR
  obtain ⟨a, cap, hsv, -, hcc⟩ := hK
  subst hsv
  obtain ⟨q, hq⟩ : ∃ q : R3, q = if (0 ≤ c ∧ c ≤ (ks.length : Int) - 1) ∧ tmB t = true then ⟨(tmS ks (ks.length + 1) c (t, t)).1, (tmS ks (ks.length + 1) c (t, t)).2, 0⟩ else ⟨0, 0, 3⟩ := ⟨_, rfl⟩
  rw [← hq]
  have HQ := Lib.hid hq
  clear hq
  generalize hqo : q.out = qo at *
  have HQO := Lib.hid (show qo = .tuple #[.agg #[.int .i64 q.lo, .int .i64 q.hi], .int .i64 q.e] from hqo.symm)
  clear hqo
  have wl : IntKind.i64.wrap ((ks.length : Int) - 1) = (ks.length : Int) - 1 := by rw [IntKind.wrap_i64]; omega
  obtain ⟨A, hA⟩ : ∃ A, A = (w.alloc (.cells #[.int .i64 c, .int .i64 t] 49)).alloc (.cells #[.int .i64 0, .int .i64 0] 23) := ⟨_, rfl⟩
  have hzA : A.heap.size = w.heap.size + 2 := by rw [hA]; simp
  have HBA := Lib.hid (show Below w.heap.size w A by rw [hA]; exact ((Below.refl _ _).alloc (Nat.le_refl _) _).alloc (by simp) _)
  have hRA : Bx2 A (w.heap.size + 1) (.int .i64 0) (.int .i64 0) := by
    rw [hA]
    have q := Bx2.new (w.alloc (.cells #[.int .i64 c, .int .i64 t] 49)) (.int .i64 0) (.int .i64 0)
    rwa [World.size_alloc] at q
  have k0 : A.cell? ⟨w.heap.size, 0, none⟩ = some (.int .i64 c) := by rw [hA]; simp [go_sem]
  have k1 : A.cell? ⟨w.heap.size, 1, none⟩ = some (.int .i64 t) := by rw [hA]; simp [go_sem]
  have HRA := Lib.hid hRA
  have r0 := hRA.c0
  have r1 := hRA.c1
  have r2 := hRA.f0 0
  have r3 := hRA.f0 1
  have HBAD := Lib.hid (show Below w.heap.size w ((A.setCell ⟨w.heap.size + 1, 0, none⟩ (.int .i64 0)).setCell ⟨w.heap.size + 1, 1, none⟩ (.int .i64 0)) from (HBA.out.setCell (p := ⟨w.heap.size + 1, 0, none⟩) (by show w.heap.size ≤ w.heap.size + 1; omega) _).setCell (p := ⟨w.heap.size + 1, 1, none⟩) (by show w.heap.size ≤ w.heap.size + 1; omega) _)
  clear hRA
  by_cases hc : 0 ≤ c ∧ c ≤ (ks.length : Int) - 1
  rotate_left
  · rw [decide_eq_false hc] at c95
    have hqv : q = ⟨0, 0, 3⟩ := by rw [HQ.out, if_neg (fun h => hc h.1)]
    have HE := Lib.hid (show qo = .tuple #[.agg #[.int .i64 0, .int .i64 0], .int .i64 3] by rw [HQO.out, hqv])
    clear HQ HQO hqv hc hpar hval hone hcc
    generalize ks.length = len at *
    go_enter Try.func99, Try.ntmps99
    go_wp2_with fail
    try rw [← hA]
    clear hA
    refine (c95 _).mono ?_
    rintro e w2 ⟨rfl, hw2⟩
    have hw3 := hw2.symm
    subst hw3
    go_wp2_with fail
    refine bodyPost_ret (v := .tuple #[.agg #[.int .i64 0, .int .i64 0], .int .i64 3]) (by simp [results, Try.results99, go_sem, r0, r1]) rfl ⟨by rw [HE.out], HBAD.out⟩
  rw [decide_eq_true hc] at c95
  cases htm : tmB t
  · rw [htm] at c80
    have hqv : q = ⟨0, 0, 3⟩ := by rw [HQ.out, if_neg (fun h => by rw [htm] at h; exact absurd h.2 (by decide))]
    have HE := Lib.hid (show qo = .tuple #[.agg #[.int .i64 0, .int .i64 0], .int .i64 3] by rw [HQO.out, hqv])
    clear HQ HQO hqv hc hpar hval hone hcc htm
    generalize ks.length = len at *
    go_enter Try.func99, Try.ntmps99
    go_wp2_with fail
    try rw [← hA]
    clear hA
    refine (c95 _).mono ?_
    rintro e w2 ⟨rfl, hw2⟩
    have hw3 := hw2.symm
    subst hw3
    go_wp2_with fail
    refine (c80 _).mono ?_
    rintro e w2 ⟨rfl, hw2⟩
    have hw3 := hw2.symm
    subst hw3
    go_wp2_with fail
    refine bodyPost_ret (v := .tuple #[.agg #[.int .i64 0, .int .i64 0], .int .i64 3]) (by simp [results, Try.results99, go_sem, r0, r1]) rfl ⟨by rw [HE.out], HBAD.out⟩
  have htm' := (tmB_iff t).1 htm
  rw [htm] at c80
  have HE := Lib.hid (show qo = .tuple #[.agg #[.int .i64 (tmS ks (ks.length + 1) c (t, t)).1, .int .i64 (tmS ks (ks.length + 1) c (t, t)).2], .int .i64 0] by rw [HQO.out, HQ.out, if_pos ⟨hc, htm⟩])
  have HPAR := Lib.hid hpar
  have HVAL := Lib.hid hval
  have HONE := Lib.hid hone
  have HC := Lib.hid hcc
  have HFIN := Lib.hid (show ∃ F : Int × Int, F = tmS ks (ks.length + 1) c (t, t) from ⟨_, rfl⟩)
  obtain ⟨F, hF⟩ := HFIN.out
  rw [← hF] at HE
  have HF := Lib.hid hF
  clear HQ HQO hpar hval hone hcc htm hF HFIN
  generalize ks.length = len at *
  have hcl : c < (len : Int) := by omega
  have hcz : 0 ≤ c := hc.1
  clear hc
  go_enter Try.func99, Try.ntmps99
  go_wp2_with fail
  try rw [← hA]
  clear hA
  refine (c95 _).mono ?_
  rintro e w2 ⟨rfl, hw2⟩
  have hw3 := hw2.symm
  subst hw3
  go_wp2_with fail
  refine (c80 _).mono ?_
  rintro e w2 ⟨rfl, hw2⟩
  have hw3 := hw2.symm
  subst hw3
  have HZ := Lib.hid hzA
  have hX0 : Bx2 (A.alloc (.cells #[.int .i64 t, .int .i64 t] 23)) (w.heap.size + 2) (.int .i64 t) (.int .i64 t) := by
    have q := Bx2.new A (.int .i64 t) (.int .i64 t)
    rwa [hzA] at q
  have HX0 := Lib.hid hX0
  have HR0 := Lib.hid (HRA.out.keep (W' := A.alloc (.cells #[.int .i64 t, .int .i64 t] 23)) ((Below.refl _ _).alloc (Nat.le_refl _) _))
  have HB0 := Lib.hid (HBA.out.alloc (by omega) (.cells #[.int .i64 t, .int .i64 t] 23))
  have hz0 : (A.alloc (.cells #[.int .i64 t, .int .i64 t] 23)).heap.size = w.heap.size + 3 := by simp; omega
  have k0' : (A.alloc (.cells #[.int .i64 t, .int .i64 t] 23)).cell? ⟨w.heap.size, 0, none⟩ = some (.int .i64 c) := by
    have := ((Below.refl A.heap.size A).alloc (Nat.le_refl _) (.cells #[.int .i64 t, .int .i64 t] 23)).cell (p := ⟨w.heap.size, 0, none⟩) (by show w.heap.size < A.heap.size; omega)
    exact this.trans k0
  clear hX0
  clear r0 r1 r2 r3 c95 c80
  go_wp2_with fail
  try rw [hzA]
  generalize hV : A.alloc (.cells #[.int .i64 t, .int .i64 t] 23) = V at *
  clear hV k0 k1 HBAD HRA HBA hzA HZ
  go_loopw [7] (fun kv wr => ∃ (kz x y : Int) (n : Nat), kv = .int .i64 kz ∧ -1 ≤ kz ∧ kz < (len : Int) ∧ kz + 1 ≤ (n : Int) ∧ F = tmS ks n kz (x, y) ∧ (-(1125899906842624 + (64 - kz) * 10000000000000) ≤ x ∧ x ≤ 1125899906842624 + (64 - kz) * 10000000000000) ∧ (-(1125899906842624 + (64 - kz) * 10000000000000) ≤ y ∧ y ≤ 1125899906842624 + (64 - kz) * 10000000000000) ∧ Bx2 wr (w.heap.size + 1) (.int .i64 0) (.int .i64 0) ∧ Bx2 wr (w.heap.size + 2) (.int .i64 x) (.int .i64 y) ∧ w.heap.size + 3 ≤ wr.heap.size ∧ Below w.heap.size w wr) (fun kv _ => ((intOf kv) + 1).toNat)
  case atStart => exact ⟨c, t, t, len + 1, rfl, by omega, hcl, by omega, HF.out, by omega, by omega, HR0.out, HX0.out, by omega, HB0.out⟩
  case round =>
    obtain ⟨kz, x, y, n, rfl, hkz, hkl, hkn, hFn, hx, hy, hR, hX, hsz, hB⟩ := hrel
    have HFN := Lib.hid hFn
    have HR := Lib.hid hR
    have HX := Lib.hid hX
    have HB := Lib.hid hB
    clear hFn
    by_cases hroot : kz = -1
    · subst hroot
      have hfe : F = (x, y) := by rw [HFN.out, tmS_root]
      subst hfe
      have x0 := hX.c0
      have x1 := hX.c1
      have r0 := hR.c0
      have r1 := hR.c1
      have r2 := hR.f0 0
      have r3 := hR.f0 1
      have HBE := Lib.hid (show Below w.heap.size w ((wr.setCell ⟨w.heap.size + 1, 0, none⟩ (.int .i64 x)).setCell ⟨w.heap.size + 1, 1, none⟩ (.int .i64 y)) from (hB.setCell (p := ⟨w.heap.size + 1, 0, none⟩) (by show w.heap.size ≤ w.heap.size + 1; omega) _).setCell (p := ⟨w.heap.size + 1, 1, none⟩) (by show w.heap.size ≤ w.heap.size + 1; omega) _)
      clear hR hX hB
      go_wp2_with fail
      refine bodyPost_ret (v := .tuple #[.agg #[.int .i64 x, .int .i64 y], .int .i64 0]) (by simp [results, Try.results99, go_sem, r0, r1]) rfl ⟨by rw [HE.out], HBE.out⟩
    · obtain ⟨k, hkk⟩ : ∃ k : Nat, kz = (k : Int) := ⟨kz.toNat, by omega⟩
      subst hkk
      have hlt : k < len := by omega
      have hkb : (k : Int) < (len : Int) := hkl
      have hne : ¬ ((k : Int) = -1) := hroot
      obtain ⟨b, off, s, hab, hb, e0, e1, e2, ho⟩ := HC.out k hlt
      subst hab
      have m0 := (hB.cell (p := ⟨b, off + k * 3, none⟩) hb).trans e0
      have m1 := (hB.cell (p := ⟨b, off + k * 3 + 1, none⟩) hb).trans e1
      have m2 := (hB.cell (p := ⟨b, off + k * 3 + 2, none⟩) hb).trans e2
      have ho2 := ho.mono hB hB.size
      have hfs := HFN.out
      rw [tmS_step ks k n (by omega)] at hfs
      have hbd := up_bd (r := (kc ks k).r) (x := x) (y := y) (os := (kc ks k).os) (B := 1125899906842624 + (64 - (k : Int)) * 10000000000000) (HVAL.out k hlt) (HONE.out k hlt) (by omega) hx hy
      have c140 := Lib.hid (fun W (hbw : Below wr.heap.size wr W) => up_any (kc ks k).p (kc ks k).r x y s (kc ks k).os (HVAL.out k hlt) (HONE.out k hlt) (by omega) (by omega) W (ho2.at hbw))
      obtain ⟨a5, c5, hs⟩ := ho.form
      subst hs
      obtain ⟨hp1, hp2⟩ := HPAR.out k hlt
      unfold spv at c140
      generalize upS (kc ks k).r (kc ks k).os (x, y) = z at *
      generalize (kc ks k).p = p at *
      generalize (kc ks k).r = r at *
      generalize (kc ks k).os.length = n5 at *
      obtain ⟨z0, z1⟩ := z
      dsimp only at hbd c140
      have HFS := Lib.hid hfs
      have HBD := Lib.hid hbd
      have hzb : b < wr.heap.size := by have := hB.size; omega
      have KK := Lib.hid (show ∀ W, Below wr.heap.size wr W → W.cell? ⟨b, off + k * 3, none⟩ = some (.int .i64 p) ∧ W.cell? ⟨b, off + k * 3 + 1, none⟩ = some (.int .i64 r) ∧ W.cell? ⟨b, off + k * 3 + 2, none⟩ = some (.slice a5 n5 c5) from fun W h => ⟨(h.cell (p := ⟨b, off + k * 3, none⟩) hzb).trans m0, (h.cell (p := ⟨b, off + k * 3 + 1, none⟩) hzb).trans m1, (h.cell (p := ⟨b, off + k * 3 + 2, none⟩) hzb).trans m2⟩)
      have x0 := hX.c0
      have x1 := hX.c1
      have hbW : b < w.heap.size := hb
      clear hfs hbd e0 e1 e2 ho ho2 hR hX hB hx hy
      go_wp2_with fail
      refine wp_region_held_drew (S := fun w' => w'.cell? ⟨b, off + k * 3, none⟩ = some (.int .i64 p) ∧ w'.cell? ⟨b, off + k * 3 + 1, none⟩ = some (.int .i64 r) ∧ w'.cell? ⟨b, off + k * 3 + 2, none⟩ = some (.slice a5 n5 c5)) (by kernel_rfl) ⟨by simpa [go_sem] using m0, by simpa [go_sem] using m1, by simpa [go_sem] using m2⟩ (fun hHeld => ?_)
      refine wpAnyH_take (i := 0) (oi := _) (v := Value.slice (some ⟨b, off, none⟩) len cap) rfl (by kernel_rfl) (by kernel_rfl) (by kernel_rfl) (fun _ _ _ h => h) (Or.inl ⟨by rfl, fun w' hSw => ?_⟩) hHeld ?_
      · obtain ⟨t0, t1, t2⟩ := hSw
        go_simp
        try simp [*]
        try (intro hh; exfalso; omega)
        try omega
      try simp only [Act.put, List.setIfInBounds_toArray, List.set_cons_zero, List.set_cons_succ, List.getElem_toArray, List.getElem_cons_succ, List.getElem_cons_zero]
      refine wpAnyH_take (i := 1) (oi := _) (v := Value.int .i64 (k : Int)) rfl (by kernel_rfl) (by kernel_rfl) (by kernel_rfl) (fun _ _ _ h => h) (Or.inl ⟨by rfl, fun w' hSw => ?_⟩) hHeld ?_
      · obtain ⟨t0, t1, t2⟩ := hSw
        go_simp
        try simp [*]
        try (intro hh; exfalso; omega)
        try omega
      try simp only [Act.put, List.setIfInBounds_toArray, List.set_cons_zero, List.set_cons_succ, List.getElem_toArray, List.getElem_cons_succ, List.getElem_cons_zero]
      refine wpAnyH_take (i := 2) (oi := _) (v := Value.pointer (some ⟨b, off + k * 3, none⟩)) rfl (by kernel_rfl) (by kernel_rfl) (by kernel_rfl) (fun _ _ _ h => h) (Or.inl ⟨by rfl, fun w' hSw => ?_⟩) hHeld ?_
      · obtain ⟨t0, t1, t2⟩ := hSw
        go_simp
        try simp [*]
        try (intro hh; exfalso; omega)
        try omega
      try simp only [Act.put, List.setIfInBounds_toArray, List.set_cons_zero, List.set_cons_succ, List.getElem_toArray, List.getElem_cons_succ, List.getElem_cons_zero]
      refine wpAnyH_take (i := 3) (oi := _) (v := Value.agg #[Value.int .i64 p, Value.int .i64 r, Value.slice a5 n5 c5]) rfl (by kernel_rfl) (by kernel_rfl) (by kernel_rfl) (fun _ _ _ h => h) (Or.inl ⟨by rfl, fun w' hSw => ?_⟩) hHeld ?_
      · obtain ⟨t0, t1, t2⟩ := hSw
        go_simp
        try simp [*]
        try (intro hh; exfalso; omega)
        try omega
      try simp only [Act.put, List.setIfInBounds_toArray, List.set_cons_zero, List.set_cons_succ, List.getElem_toArray, List.getElem_cons_succ, List.getElem_cons_zero]
      refine wpAnyH_ready (rs := [4]) (by kernel_rfl) (by simp) ?_
      refine AllReadyH.cons (o := _) rfl (fun K hK => ?_) AllReadyH.nil
      go_simp
      clear hHeld
      refine hK.out _ _ (KK.out _ (Below.refl wr.heap.size wr).drew) (fun hHeld => ?_)
      clear hK K
      try simp only [Act.put, List.setIfInBounds_toArray, List.set_cons_zero, List.set_cons_succ, List.getElem_toArray, List.getElem_cons_succ, List.getElem_cons_zero]
      refine wpAnyH_ready (rs := [5]) (by kernel_rfl) (by simp) ?_
      refine AllReadyH.cons (o := _) rfl (fun K hK => ?_) AllReadyH.nil
      go_simp
      go_at_call 140
      refine Calls.mono (c140.out _ (Below.refl wr.heap.size wr).drew) ?_
      rintro e v1 ⟨rfl, hb⟩
      have HV1 := Lib.hid (show Below wr.heap.size wr v1 from Below.trans ((Below.refl wr.heap.size wr).drew) hb)
      clear hb
      clear hHeld
      refine hK.out _ _ (KK.out _ HV1.out) (fun hHeld => ?_)
      clear hK K
      try simp only [Act.put, List.setIfInBounds_toArray, List.set_cons_zero, List.set_cons_succ, List.getElem_toArray, List.getElem_cons_succ, List.getElem_cons_zero]
      have hR2 := HX.out.keep HV1.out
      have x0 := hR2.c0
      have x1 := hR2.c1
      have rf0 := hR2.f0 0
      have rf1 := hR2.f0 1
      have HX2 := Lib.hid hR2
      have HRR := Lib.hid (HR.out.keep HV1.out)
      clear hR2
      obtain ⟨V2, hV2⟩ : ∃ V2, V2 = (v1.setCell ⟨w.heap.size + 2, 0, none⟩ (.int .i64 z0)).setCell ⟨w.heap.size + 2, 1, none⟩ (.int .i64 z1) := ⟨_, rfl⟩
      have hbne : b ≠ w.heap.size + 2 := by omega
      have l0 : V2.cell? ⟨b, off + k * 3, none⟩ = some (.int .i64 p) ∧ V2.cell? ⟨b, off + k * 3 + 1, none⟩ = some (.int .i64 r) ∧ V2.cell? ⟨b, off + k * 3 + 2, none⟩ = some (.slice a5 n5 c5) := by
        obtain ⟨q0, q1, q2⟩ := KK.out _ HV1.out
        have q : ∀ o, V2.cell? ⟨b, o, none⟩ = v1.cell? ⟨b, o, none⟩ := fun o => by
          rw [hV2]
          exact (World.cell?_setCell_other _ _ _ _ (by intro q; exact hbne (Addr.mk.inj q).1.symm)).trans (World.cell?_setCell_other _ _ _ _ (by intro q; exact hbne (Addr.mk.inj q).1.symm))
        exact ⟨(q _).trans q0, (q _).trans q1, (q _).trans q2⟩
      refine wpAnyH_ready (rs := [6]) (by kernel_rfl) (by simp) ?_
      refine AllReadyH.cons (o := _) rfl (fun K hK => ?_) AllReadyH.nil
      go_simp
      try rw [← hV2]
      clear hHeld
      refine hK.out _ _ l0 (fun hHeld => ?_)
      clear hK K
      try simp only [Act.put, List.setIfInBounds_toArray, List.set_cons_zero, List.set_cons_succ, List.getElem_toArray, List.getElem_cons_succ, List.getElem_cons_zero]
      refine wpAnyH_done (by kernel_rfl) ?_ _
      clear hHeld
      have hX3 : Bx2 V2 (w.heap.size + 2) (.int .i64 z0) (.int .i64 z1) := by rw [hV2]; exact HX2.out.set _ _
      have hR3 : Bx2 V2 (w.heap.size + 1) (.int .i64 0) (.int .i64 0) := by rw [hV2]; exact (HRR.out.far (by omega)).far (by omega)
      have hB3 : Below w.heap.size w V2 := by rw [hV2]; exact ((HB.out.trans (HV1.out.mono HB.out.size)).setCell (p := ⟨w.heap.size + 2, 0, none⟩) (by show w.heap.size ≤ w.heap.size + 2; omega) _).setCell (p := ⟨w.heap.size + 2, 1, none⟩) (by show w.heap.size ≤ w.heap.size + 2; omega) _
      have hz3 : w.heap.size + 3 ≤ V2.heap.size := by have := HV1.out.size; rw [hV2]; simp; omega
      have HX3 := Lib.hid hX3
      have HR3 := Lib.hid hR3
      have HB3 := Lib.hid hB3
      obtain ⟨q0, q1, q2⟩ := l0
      clear hV2 hX3 hR3 hB3 m0 m1 m2 x0 x1 rf0 rf1
      go_wp2_with fail
      go_roundw
      case rel => exact ⟨p, z0, z1, n - 1, by first | rfl | go_num, hp1, by omega, by omega, HFS.out, by have := HBD.out.1; omega, by have := HBD.out.2; omega, HR3.out, HX3.out, hz3, HB3.out⟩
      case measure => simp [intOf]; omega
end Go.Proofs.Ytcchmjbedppfnaa

/-
  Searches: Drift, the program's pass, Where and Found of both sides; the walk of MooringSearches.
-/
import Derived.Test.YthogahdnidjelaaSeaOne
import Derived.Shelf.Abstract
import Derived.Shelf.RegionOpen
import Derived.WalkKit
import Derived.OwnWalkIn
import Derived.TacticsInMore
import Derived.LoopNIn
import Derived.LoopIn
import Derived.Test.YthogahdnidjelaaLawCodes
namespace Go.Proofs.Ythogahdnidjelaa
open Go.RowKit Go.Shelf
set_option linter.unusedSimpArgs false
theorem hrOk_get {wd hg : Int} {h : Hr} (e : hrOk wd hg h = true) : ((h.eLo ≤ h.eHi ∧ -4 ≤ h.eLo ∧ h.eHi ≤ 4) ∧ (h.nLo ≤ h.nHi ∧ -4 ≤ h.nLo ∧ h.nHi ≤ 4)) ∧ areB (wd * hg) h.se = true := by
  unfold hrOk at e
  rw [shB_eq, shB_eq] at e
  simp only [Bool.and_eq_true, decide_eq_true_eq] at e
  exact ⟨⟨e.1, e.2.1⟩, e.2.2⟩
theorem areB_ge {lim : Int} {l : List Int} (h : areB lim l = true) : ∀ k, k < l.length → (k : Int) ≤ vAt l k := by
  intro k
  induction k with
  | zero => intro hk; exact (areB_nn h 0 hk).1
  | succ k ih =>
    intro hk
    have a := ih (by omega)
    have b := areB_get h hk
    have e : lastTo l (k + 1) = vAt l k := rfl
    omega
theorem areB_len {n : Nat} {l : List Int} (h : areB (n : Int) l = true) : l.length ≤ n := by
  rcases Nat.eq_zero_or_pos l.length with e | e
  · omega
  · have a := areB_ge h (l.length - 1) (by omega)
    have b := areB_nn h (l.length - 1) (by omega)
    omega
set_option maxRecDepth 100000 in
set_option maxHeartbeats 8000000 in
theorem rdrift_any (wd hg : Int) (n : Nat) (hw : 1 ≤ wd ∧ wd ≤ 24) (hh : 1 ≤ hg ∧ hg ≤ 24) (hn : wd * hg = (n : Int)) : RDrift wd hg n := by
  intro F bs h s W hlen hF hS hok
  subst hlen
  obtain ⟨⟨⟨ge0, ge1, ge2⟩, gn0, gn1, gn2⟩, har⟩ := hrOk_get hok
  clear hok
  have hn576 : bs.length ≤ 576 := by
    have a := Int.mul_le_mul hw.2 hh.2 (by omega) (by omega)
    omega
  have W1' : wrap64 (wd * hg) = (bs.length : Int) := by unfold wrap64; omega
  have HNN := Lib.hid (areB_nn har)
  rw [hn] at HNN
  have hsl576 := areB_len (n := bs.length) (by rw [← hn]; exact har)
  have HCF := Lib.hid (fun k (hk : k < bs.length) => hF.cell hk)
  have HFl := hF.lt
  have HST := Lib.hid (DrL.start wd hg h bs)
  have HROW := Lib.hid (fun (c : Nat) (E N : Int) l lf (g : DrL wd hg h bs c E N l lf) hN => g.rows hN)
  have HCOL := Lib.hid (fun (c : Nat) (E : Int) l lf (g : DrL wd hg h bs c E h.nLo l lf) hE => g.cols hE)
  have HNO := Lib.hid (fun (c : Nat) (E N : Int) l lf (g : DrL wd hg h bs c E N l lf) hb => g.no hb)
  have HOUT := Lib.hid (fun (c : Nat) (E N : Int) l lf (g : DrL wd hg h bs c E N l lf) hi ho => g.out hi ho)
  have HINN := Lib.hid (fun (c : Nat) (E N : Int) l lf (g : DrL wd hg h bs c E N l lf) hi (m : Nat) ho hm => g.inn hn hi (m := m) ho hm)
  have HLEN := Lib.hid (fun (c : Nat) (E N : Int) l lf (g : DrL wd hg h bs c E N l lf) => g.1)
  have HSE := Lib.hid (fun (E N : Int) l lf (g : DrL wd hg h bs bs.length E N l lf) => g.se)
  have HSS := Lib.hid (fun (k m : Nat) l (g : SeL wd hg h bs k l) hm => g.step (m := m) hm)
  have HSL := Lib.hid (fun (k : Nat) l (g : SeL wd hg h bs k l) => g.1)
  have HSA := Lib.hid (fun l (g : SeL wd hg h bs h.se.length l) => g.all)
  have HIS := Lib.hid (fun (c : Nat) (E N : Int) (a1 : c < bs.length) (a2 : bAt bs c = true) (a3 : h.eLo ≤ E) (a4 : E ≤ h.eHi) (a5 : h.nLo ≤ N) (a6 : N ≤ h.nHi) => show Is h bs c E N from ⟨a1, a2, a3, a4, a5, a6⟩)
  have HIN := Lib.hid (fun (x y : Int) (g : InA wd hg x y) => cell_in hn g)
  obtain ⟨sa, scap, rfl, -, hSC⟩ := hS
  have HSC := Lib.hid hSC
  clear hSC hF har
  have HXL := Lib.hid (show (leftB wd hg h bs) = leftB wd hg h bs from rfl)
  generalize hD : DrL wd hg h bs = D at *
  generalize hSel : SeL wd hg h bs = Sl at *
  generalize leftB wd hg h bs = LFB at *
  generalize nextB wd hg h bs = NXB at *
  clear hD hSel HXL
  generalize h.se.length = sl at *
  generalize bs.length = len at *
  obtain ⟨A, hA⟩ : ∃ A, A = (W.alloc (.cells #[.int .i64 wd, .int .i64 hg] 54)).alloc (.cells #[.int .i64 h.eLo, .int .i64 h.eHi, .int .i64 h.nLo, .int .i64 h.nHi, .slice sa sl scap] 81) := ⟨_, rfl⟩
  have hzA : A.heap.size = W.heap.size + 2 := by rw [hA]; simp
  have KK := Lib.hid (show ∀ w', Below (W.heap.size + 2) A w' → w'.cell? ⟨W.heap.size, 0, none⟩ = some (.int .i64 wd) ∧ w'.cell? ⟨W.heap.size, 1, none⟩ = some (.int .i64 hg) ∧ w'.cell? ⟨W.heap.size + 1, 0, none⟩ = some (.int .i64 h.eLo) ∧ w'.cell? ⟨W.heap.size + 1, 1, none⟩ = some (.int .i64 h.eHi) ∧ w'.cell? ⟨W.heap.size + 1, 2, none⟩ = some (.int .i64 h.nLo) ∧ w'.cell? ⟨W.heap.size + 1, 3, none⟩ = some (.int .i64 h.nHi) ∧ w'.cell? ⟨W.heap.size + 1, 4, none⟩ = some (.slice sa sl scap) from fun w' g => by
    refine ⟨(g.cell (p := ⟨W.heap.size, 0, none⟩) (Nat.lt_add_of_pos_right (by decide))).trans ?_, (g.cell (p := ⟨W.heap.size, 1, none⟩) (Nat.lt_add_of_pos_right (by decide))).trans ?_, (g.cell (p := ⟨W.heap.size + 1, 0, none⟩) (Nat.lt_succ_self _)).trans ?_, (g.cell (p := ⟨W.heap.size + 1, 1, none⟩) (Nat.lt_succ_self _)).trans ?_, (g.cell (p := ⟨W.heap.size + 1, 2, none⟩) (Nat.lt_succ_self _)).trans ?_, (g.cell (p := ⟨W.heap.size + 1, 3, none⟩) (Nat.lt_succ_self _)).trans ?_, (g.cell (p := ⟨W.heap.size + 1, 4, none⟩) (Nat.lt_succ_self _)).trans ?_⟩ <;> (rw [hA]; simp [go_sem]))
  have HBA := Lib.hid (show ∀ w', Below (W.heap.size + 2) A w' → Below W.heap.size W w' from fun w' g => by
    have e : Below W.heap.size W A := by rw [hA]; exact ((Below.refl _ _).alloc (Nat.le_refl _) _).alloc (by simp) _
    exact e.trans (g.mono (by omega)))
  obtain ⟨w2, hM, hS, hb⟩ := make_bools A len (by omega)
  rw [hzA] at hS hb
  have HB2 := Lib.hid hb
  have HS := Lib.hid hS
  obtain ⟨k0, k1, k2, k3, k4, k5, k6⟩ := KK.out A (Below.refl _ _)
  clear hb hS
  rw [hA] at hM k0 k1 k2 k3 k4 k5 k6
  generalize h.eLo = e0 at *
  generalize h.eHi = e1 at *
  generalize h.nLo = n0 at *
  generalize h.nHi = n1 at *
  go_enter Try.func88, Try.ntmps88
  go_wp2_with fail
  clear hM k0 k1 k2 k3 k4 k5 k6 hA
  go_loopw [9, 10] (fun left c wr => ∃ (k : Nat) (l : List Bool) (lf : Bool), k ≤ len ∧ c = .int .i64 k ∧ left = .bool lf ∧ BB wr (W.heap.size + 2) l ∧ D k e0 n0 l lf ∧ Below (W.heap.size + 2) A wr) (fun _ c _ => len - (intOf c).toNat)
  case atStart => exact ⟨0, _, false, Nat.zero_le _, rfl, rfl, HS.out, HST.out, HB2.out⟩
  case round =>
    obtain ⟨k, l, lf, hk, rfl, rfl, hS, hD, hg'⟩ := hrel
    obtain ⟨k0, k1, k2, k3, k4, k5, k6⟩ := KK.out _ hg'
    have HG := Lib.hid hg'
    have HSk := Lib.hid hS
    have HDk := Lib.hid hD
    have hBw := HBA.out _ hg'
    have HBw := Lib.hid hBw
    by_cases hlt : k < len
    · have m0 := (hBw.cell (p := ⟨F, k, none⟩) HFl).trans (HCF.out k hlt)
      have HM0 := Lib.hid (HCF.out k hlt)
      have hki : (k : Int) < (len : Int) := by omega
      clear hg' hS hD hBw
      generalize hbv : bAt bs k = b at *
      have HBV := Lib.hid hbv
      clear hbv
      cases b
      · go_wp2_with fail
        go_loopw [9, 11] (fun left x wr' => left = .bool lf ∧ x = .int .i64 e0 ∧ wr' = wr) (fun _ _ _ => 0)
        case atStart => exact ⟨rfl, rfl, rfl⟩
        case round =>
          obtain ⟨rfl, rfl, rfl⟩ := hrel
          go_wp2_with fail
          go_roundw
          case rel => exact ⟨k + 1, l, lf, by omega, by go_num, rfl, HSk.out, HNO.out _ _ _ _ _ HDk.out HBV.out, HG.out⟩
          case measure => simp [intOf]; omega
      · have mT : Hid (∀ w', Below (W.heap.size + 2) A w' → w'.cell? ⟨F, k, none⟩ = some (.bool true)) := Lib.hid (fun w' g => ((HBA.out _ g).cell (p := ⟨F, k, none⟩) HFl).trans HM0.out)
        go_wp2_with fail
        clear k0 k1 k2 k3 k4 k5 k6 m0 HM0
        go_loopw [9, 11] (fun left x wr => ∃ (E : Int) (l : List Bool) (lf : Bool), e0 ≤ E ∧ E ≤ e1 + 1 ∧ x = .int .i64 E ∧ left = .bool lf ∧ BB wr (W.heap.size + 2) l ∧ D k E n0 l lf ∧ Below (W.heap.size + 2) A wr) (fun _ x _ => (e1 + 1 - intOf x).toNat)
        case atStart => exact ⟨e0, l, lf, by omega, by omega, rfl, rfl, HSk.out, HDk.out, HG.out⟩
        case round =>
          clear HG HSk HDk HBw
          obtain ⟨E, l, lf, hE0, hE1, rfl, rfl, hS, hD, hg'⟩ := hrel
          obtain ⟨k0, k1, k2, k3, k4, k5, k6⟩ := KK.out _ hg'
          have m0 := mT.out _ hg'
          have HG := Lib.hid hg'
          have HSk := Lib.hid hS
          have HDk := Lib.hid hD
          clear hg' hS hD
          by_cases hEe : E ≤ e1
          · go_wp2_with fail
            clear k0 k1 k2 k3 k4 k5 k6 m0
            go_loopw [9, 12] (fun left y wr => ∃ (N : Int) (l : List Bool) (lf : Bool), n0 ≤ N ∧ N ≤ n1 + 1 ∧ y = .int .i64 N ∧ left = .bool lf ∧ BB wr (W.heap.size + 2) l ∧ D k E N l lf ∧ Below (W.heap.size + 2) A wr) (fun _ y _ => (n1 + 1 - intOf y).toNat)
            case atStart => exact ⟨n0, l, lf, by omega, by omega, rfl, rfl, HSk.out, HDk.out, HG.out⟩
            case round =>
              clear HG HSk HDk
              obtain ⟨N, l, lf, hN0, hN1, rfl, rfl, hS, hD, hg'⟩ := hrel
              obtain ⟨k0, k1, k2, k3, k4, k5, k6⟩ := KK.out _ hg'
              have HG := Lib.hid hg'
              have HSk := Lib.hid hS
              have HDk := Lib.hid hD
              by_cases hNn : N ≤ n1
              · have hi := HIS.out k E N hlt HBV.out hE0 hEe hN0 hNn
                have HO1 := Lib.hid (HOUT.out k E N l lf HDk.out hi)
                have HI1 := Lib.hid (HINN.out k E N l lf HDk.out hi)
                have bX1 := Int.emod_nonneg (k : Int) (show wd ≠ 0 by omega)
                have bX2 := Int.emod_lt_of_pos (k : Int) (show 0 < wd by omega)
                have bY1 : 0 ≤ (k : Int) / wd := Int.ediv_nonneg (by omega) (by omega)
                have bY2 : (k : Int) / wd ≤ (k : Int) := Int.ediv_le_self _ (by omega)
                have tX : (k : Int).tmod wd = (k : Int) % wd := Int.tmod_eq_emod_of_nonneg (by omega)
                have tY : (k : Int).tdiv wd = (k : Int) / wd := Int.tdiv_eq_ediv_of_nonneg (by omega)
                have hX : toX wd k E = (k : Int) % wd + E := rfl
                have hY : toY wd k N = (k : Int) / wd + N := rfl
                generalize (k : Int) % wd = cm at *
                generalize (k : Int) / wd = cq at *
                generalize toX wd k E = X at *
                generalize toY wd k N = Y at *
                have v1 : IntKind.i64.wrap cm = cm := by rw [IntKind.wrap_i64]; omega
                have v2 : IntKind.i64.wrap (cm + E) = X := by rw [IntKind.wrap_i64]; omega
                have v3 : IntKind.i64.wrap cq = cq := by rw [IntKind.wrap_i64]; omega
                have v4 : IntKind.i64.wrap (cq + N) = Y := by rw [IntKind.wrap_i64]; omega
                have hw0 : ¬ wd = 0 := by omega
                have bX : -4 ≤ X ∧ X ≤ 27 := by omega
                have bY : -4 ≤ Y ∧ Y ≤ 600 := by omega
                have HXE := Lib.hid hX
                have HYE := Lib.hid hY
                clear hg' hS hD hi hX hY bX1 bX2 bY1 bY2
                go_wp2_with fail
                refine wp_region_held_drew (S := fun w' => w'.cell? ⟨W.heap.size, 0, none⟩ = some (.int .i64 wd)) (by kernel_rfl) (by simpa [go_sem] using k0) (fun hHeld => ?_)
                refine wpAnyH_take (i := 0) (oi := _) (v := .int .i64 (k : Int)) rfl (by kernel_rfl) (by kernel_rfl) (by kernel_rfl) (fun _ _ _ h => h) (Or.inl ⟨by rfl, fun w' hSw => ?_⟩) hHeld ?_
                · have t0 := hSw
                  go_simp
                  try simp [*]
                  try (intro hh; exfalso; omega)
                  try omega
                try simp only [Act.put, List.setIfInBounds_toArray, List.set_cons_zero, List.set_cons_succ, List.getElem_toArray, List.getElem_cons_succ, List.getElem_cons_zero]
                refine wpAnyH_take (i := 1) (oi := _) (v := Value.pointer (some ⟨W.heap.size, 0, none⟩)) rfl (by kernel_rfl) (by kernel_rfl) (by kernel_rfl) (fun _ _ _ h => h) (Or.inl ⟨by rfl, fun w' hSw => ?_⟩) hHeld ?_
                · have t0 := hSw
                  go_simp
                  try simp [*]
                  try (intro hh; exfalso; omega)
                  try omega
                try simp only [Act.put, List.setIfInBounds_toArray, List.set_cons_zero, List.set_cons_succ, List.getElem_toArray, List.getElem_cons_succ, List.getElem_cons_zero]
                refine wpAnyH_take (i := 2) (oi := _) (v := Value.int .i64 wd) rfl (by kernel_rfl) (by kernel_rfl) (by kernel_rfl) (fun _ _ _ h => h) (Or.inl ⟨by rfl, fun w' hSw => ?_⟩) hHeld ?_
                · have t0 := hSw
                  go_simp
                  try simp [*]
                  try (intro hh; exfalso; omega)
                  try omega
                try simp only [Act.put, List.setIfInBounds_toArray, List.set_cons_zero, List.set_cons_succ, List.getElem_toArray, List.getElem_cons_succ, List.getElem_cons_zero]
                refine wpAnyH_take (i := 3) (oi := _) (v := Value.int .i64 cm) rfl (by kernel_rfl) (by kernel_rfl) (by kernel_rfl) (fun _ _ _ h => h) (Or.inl ⟨by rfl, fun w' hSw => ?_⟩) hHeld ?_
                · have t0 := hSw
                  go_simp
                  try simp [*]
                  try (intro hh; exfalso; omega)
                  try omega
                try simp only [Act.put, List.setIfInBounds_toArray, List.set_cons_zero, List.set_cons_succ, List.getElem_toArray, List.getElem_cons_succ, List.getElem_cons_zero]
                refine wpAnyH_take (i := 4) (oi := _) (v := Value.int .i64 E) rfl (by kernel_rfl) (by kernel_rfl) (by kernel_rfl) (fun _ _ _ h => h) (Or.inl ⟨by rfl, fun w' hSw => ?_⟩) hHeld ?_
                · have t0 := hSw
                  go_simp
                  try simp [*]
                  try (intro hh; exfalso; omega)
                  try omega
                try simp only [Act.put, List.setIfInBounds_toArray, List.set_cons_zero, List.set_cons_succ, List.getElem_toArray, List.getElem_cons_succ, List.getElem_cons_zero]
                refine wpAnyH_take (i := 5) (oi := _) (v := Value.int .i64 X) rfl (by kernel_rfl) (by kernel_rfl) (by kernel_rfl) (fun _ _ _ h => h) (Or.inl ⟨by rfl, fun w' hSw => ?_⟩) hHeld ?_
                · have t0 := hSw
                  go_simp
                  try simp [*]
                  try (intro hh; exfalso; omega)
                  try omega
                try simp only [Act.put, List.setIfInBounds_toArray, List.set_cons_zero, List.set_cons_succ, List.getElem_toArray, List.getElem_cons_succ, List.getElem_cons_zero]
                refine wpAnyH_take (i := 6) (oi := _) (v := .int .i64 (k : Int)) rfl (by kernel_rfl) (by kernel_rfl) (by kernel_rfl) (fun _ _ _ h => h) (Or.inl ⟨by rfl, fun w' hSw => ?_⟩) hHeld ?_
                · have t0 := hSw
                  go_simp
                  try simp [*]
                  try (intro hh; exfalso; omega)
                  try omega
                try simp only [Act.put, List.setIfInBounds_toArray, List.set_cons_zero, List.set_cons_succ, List.getElem_toArray, List.getElem_cons_succ, List.getElem_cons_zero]
                refine wpAnyH_take (i := 7) (oi := _) (v := Value.pointer (some ⟨W.heap.size, 0, none⟩)) rfl (by kernel_rfl) (by kernel_rfl) (by kernel_rfl) (fun _ _ _ h => h) (Or.inl ⟨by rfl, fun w' hSw => ?_⟩) hHeld ?_
                · have t0 := hSw
                  go_simp
                  try simp [*]
                  try (intro hh; exfalso; omega)
                  try omega
                try simp only [Act.put, List.setIfInBounds_toArray, List.set_cons_zero, List.set_cons_succ, List.getElem_toArray, List.getElem_cons_succ, List.getElem_cons_zero]
                refine wpAnyH_take (i := 8) (oi := _) (v := Value.int .i64 wd) rfl (by kernel_rfl) (by kernel_rfl) (by kernel_rfl) (fun _ _ _ h => h) (Or.inl ⟨by rfl, fun w' hSw => ?_⟩) hHeld ?_
                · have t0 := hSw
                  go_simp
                  try simp [*]
                  try (intro hh; exfalso; omega)
                  try omega
                try simp only [Act.put, List.setIfInBounds_toArray, List.set_cons_zero, List.set_cons_succ, List.getElem_toArray, List.getElem_cons_succ, List.getElem_cons_zero]
                refine wpAnyH_take (i := 9) (oi := _) (v := Value.int .i64 cq) rfl (by kernel_rfl) (by kernel_rfl) (by kernel_rfl) (fun _ _ _ h => h) (Or.inl ⟨by rfl, fun w' hSw => ?_⟩) hHeld ?_
                · have t0 := hSw
                  go_simp
                  try simp [*]
                  try (intro hh; exfalso; omega)
                  try omega
                try simp only [Act.put, List.setIfInBounds_toArray, List.set_cons_zero, List.set_cons_succ, List.getElem_toArray, List.getElem_cons_succ, List.getElem_cons_zero]
                refine wpAnyH_take (i := 10) (oi := _) (v := Value.int .i64 N) rfl (by kernel_rfl) (by kernel_rfl) (by kernel_rfl) (fun _ _ _ h => h) (Or.inl ⟨by rfl, fun w' hSw => ?_⟩) hHeld ?_
                · have t0 := hSw
                  go_simp
                  try simp [*]
                  try (intro hh; exfalso; omega)
                  try omega
                try simp only [Act.put, List.setIfInBounds_toArray, List.set_cons_zero, List.set_cons_succ, List.getElem_toArray, List.getElem_cons_succ, List.getElem_cons_zero]
                refine wpAnyH_take (i := 11) (oi := _) (v := Value.int .i64 Y) rfl (by kernel_rfl) (by kernel_rfl) (by kernel_rfl) (fun _ _ _ h => h) (Or.inl ⟨by rfl, fun w' hSw => ?_⟩) hHeld ?_
                · have t0 := hSw
                  go_simp
                  try simp [*]
                  try (intro hh; exfalso; omega)
                  try omega
                try simp only [Act.put, List.setIfInBounds_toArray, List.set_cons_zero, List.set_cons_succ, List.getElem_toArray, List.getElem_cons_succ, List.getElem_cons_zero]
                refine wpAnyH_take (i := 12) (oi := _) (v := Value.int .i64 X) rfl (by kernel_rfl) (by kernel_rfl) (by kernel_rfl) (fun _ _ _ h => h) (Or.inl ⟨by rfl, fun w' hSw => ?_⟩) hHeld ?_
                · have t0 := hSw
                  go_simp
                  try simp [*]
                  try (intro hh; exfalso; omega)
                  try omega
                try simp only [Act.put, List.setIfInBounds_toArray, List.set_cons_zero, List.set_cons_succ, List.getElem_toArray, List.getElem_cons_succ, List.getElem_cons_zero]
                refine wpAnyH_take (i := 13) (oi := _) (v := Value.int .i64 Y) rfl (by kernel_rfl) (by kernel_rfl) (by kernel_rfl) (fun _ _ _ h => h) (Or.inl ⟨by rfl, fun w' hSw => ?_⟩) hHeld ?_
                · have t0 := hSw
                  go_simp
                  try simp [*]
                  try (intro hh; exfalso; omega)
                  try omega
                try simp only [Act.put, List.setIfInBounds_toArray, List.set_cons_zero, List.set_cons_succ, List.getElem_toArray, List.getElem_cons_succ, List.getElem_cons_zero]
                refine wpAnyH_done (by kernel_rfl) ?_ _
                clear hHeld
                clear tX tY v1 v2 v3 v4 hw0 k0 k1 k2 k3 k4 k5 k6
                have HG1 := Lib.hid HG.out.drew
                have HS1 : Hid (BB wr.drew (W.heap.size + 2) l) := Lib.hid HSk.out
                clear HG HSk
                generalize wr.drew = wr1 at *
                obtain ⟨k0, k1, k2, k3, k4, k5, k6⟩ := KK.out _ HG1.out
                have vN : wrap64 (N + 1) = N + 1 := by unfold wrap64; omega
                by_cases c0 : X < 0
                · have ho : ¬ InA wd hg X Y := fun q => by unfold InA at q; omega
                  have HO := Lib.hid (HO1.out ho)
                  clear ho
                  go_wp2_with fail
                  go_roundw
                  case rel => exact ⟨N + 1, l, true, by omega, by omega, by go_num, rfl, HS1.out, HO.out, HG1.out⟩
                  case measure => simp [intOf]; omega
                by_cases c1 : X ≥ wd
                · have ho : ¬ InA wd hg X Y := fun q => by unfold InA at q; omega
                  have HO := Lib.hid (HO1.out ho)
                  clear ho
                  go_wp2_with fail
                  go_roundw
                  case rel => exact ⟨N + 1, l, true, by omega, by omega, by go_num, rfl, HS1.out, HO.out, HG1.out⟩
                  case measure => simp [intOf]; omega
                by_cases c2 : Y < 0
                · have ho : ¬ InA wd hg X Y := fun q => by unfold InA at q; omega
                  have HO := Lib.hid (HO1.out ho)
                  clear ho
                  go_wp2_with fail
                  go_roundw
                  case rel => exact ⟨N + 1, l, true, by omega, by omega, by go_num, rfl, HS1.out, HO.out, HG1.out⟩
                  case measure => simp [intOf]; omega
                by_cases c3 : Y ≥ hg
                · have ho : ¬ InA wd hg X Y := fun q => by unfold InA at q; omega
                  have HO := Lib.hid (HO1.out ho)
                  clear ho
                  go_wp2_with fail
                  go_roundw
                  case rel => exact ⟨N + 1, l, true, by omega, by omega, by go_num, rfl, HS1.out, HO.out, HG1.out⟩
                  case measure => simp [intOf]; omega
                have hin : InA wd hg X Y := ⟨by omega, by omega, by omega, by omega⟩
                have hci := HIN.out X Y hin
                obtain ⟨P, hP⟩ : ∃ P, P = Y * wd := ⟨_, rfl⟩
                obtain ⟨m, hm⟩ : ∃ m : Nat, Y * wd + X = (m : Int) := ⟨(Y * wd + X).toNat, by omega⟩
                have HO := Lib.hid (HI1.out m hin hm)
                rw [← hP] at hci hm
                have u1 : wrap64 (Y * wd) = P := by rw [← hP]; unfold wrap64; omega
                have u2 : wrap64 (P + X) = (m : Int) := by unfold wrap64; omega
                have hml : m < len := by omega
                have hmi : (m : Int) < (len : Int) := by omega
                have q1 := HS1.out.cell (k := m) (by rw [HLEN.out _ _ _ _ _ HDk.out]; exact hml)
                have q2 := HS1.out.frozen m
                have HN := Lib.hid (HS1.out.set (k := m) true)
                generalize bAt l m = bm at q1
                clear hin hci hm hP
                go_wp2_with fail
                go_roundw
                case rel => exact ⟨N + 1, l.set m true, lf, by omega, by omega, by go_num, rfl, HN.out, HO.out, HG1.out.setCell (Nat.le_refl _) _⟩
                case measure => simp [intOf]; omega
              · clear hg' hS hD
                go_wp2_with fail
                go_roundw
                case rel => exact ⟨E + 1, l, lf, by omega, by omega, by go_num, rfl, HSk.out, HROW.out _ _ _ _ _ HDk.out (by omega), HG.out⟩
                case measure => simp [intOf]; omega
          · obtain rfl : E = e1 + 1 := by omega
            go_wp2_with fail
            go_roundw
            case rel => exact ⟨k + 1, l, lf, by omega, by go_num, rfl, HSk.out, HCOL.out _ _ _ _ HDk.out (by omega), HG.out⟩
            case measure => simp [intOf]; omega
    · obtain rfl : k = len := by omega
      obtain ⟨hsl, rfl⟩ := HSE.out _ _ _ _ hD
      have HSL0 := Lib.hid hsl
      clear hg' hS hD hsl hBw HBw HDk HROW HCOL HNO HOUT HINN HLEN HSE HIS HIN HST
      go_wp2_with fail
      clear k0 k1 k2 k3 k4 k5 k6
      go_loopw [15] (fun i wr => ∃ (j : Nat) (l : List Bool), j ≤ sl ∧ i = .int .i64 j ∧ BB wr (W.heap.size + 2) l ∧ Sl j l ∧ Below (W.heap.size + 2) A wr) (fun i _ => sl - (intOf i).toNat)
      case atStart => exact ⟨0, l, Nat.zero_le _, rfl, HSk.out, HSL0.out, HG.out⟩
      case round =>
        clear HG HSk HSL0
        obtain ⟨j, l, hj, rfl, hS, hD, hg'⟩ := hrel
        obtain ⟨k0, k1, k2, k3, k4, k5, k6⟩ := KK.out _ hg'
        have HG := Lib.hid hg'
        have HSk := Lib.hid hS
        have HDk := Lib.hid hD
        by_cases hjl : j < sl
        · obtain ⟨b, off, rfl, hb, e0⟩ := HSC.out j hjl
          have m0 := ((HBA.out _ hg').cell (p := ⟨b, off + j, none⟩) hb).trans e0
          have hji : (j : Int) < (sl : Int) := by omega
          have hnn := HNN.out j hjl
          have hst := HSS.out j (vAt h.se j).toNat l hD (by omega)
          have hll := HSL.out _ _ hD
          unfold vAt at hnn hst
          generalize h.se[j]?.getD 0 = x at *
          obtain ⟨xn, rfl⟩ : ∃ xn : Nat, x = (xn : Int) := ⟨x.toNat, by omega⟩
          rw [Int.toNat_natCast] at hst
          have hxn : xn < k := by omega
          have q1 := hS.cell (k := xn) (by rw [hll]; exact hxn)
          have q2 := hS.frozen xn
          have hxi : (xn : Int) < (k : Int) := by omega
          have HN := Lib.hid (hS.set (k := xn) false)
          have HO := Lib.hid hst
          generalize bAt l xn = bm at q1
          clear e0 hS hst hD hg' hnn hll
          go_wp2_with fail
          go_roundw
          case rel => exact ⟨j + 1, _, by omega, by go_num, HN.out, HO.out, HG.out.setCell (Nat.le_refl _) _⟩
          case measure => simp [intOf]; omega
        · obtain rfl : j = sl := by omega
          obtain rfl := HSA.out _ hD
          clear hg' hS hD
          go_wp2_with fail
          refine bodyPost_ret (v := .tuple #[.slice (some ⟨W.heap.size + 2, 0, none⟩) k k, .bool lf]) (by simp [results, Try.results88, go_sem]) rfl ⟨_, rfl, HSk.out, HBA.out _ HG.out⟩
end Go.Proofs.Ythogahdnidjelaa
namespace Go.Proofs.Ythogahdnidjelaa
open Go.RowKit Go.Shelf
attribute [local go_sem] Oper.semAt_some
set_option linter.unusedSimpArgs false
/-- the blocks from lo up to hi are the same -/
def KeepIv (lo hi : Nat) (W W' : World) : Prop := ∀ k, lo ≤ k → k < hi → W'.heap[k]? = W.heap[k]?
theorem KeepIv.refl (lo hi : Nat) (W : World) : KeepIv lo hi W W := fun _ _ _ => rfl
theorem KeepIv.trans {lo hi : Nat} {A B C : World} (h : KeepIv lo hi A B) (k : KeepIv lo hi B C) : KeepIv lo hi A C := fun i h1 h2 => (k i h1 h2).trans (h i h1 h2)
theorem KeepIv.drew {lo hi : Nat} {A B : World} (h : KeepIv lo hi A B) : KeepIv lo hi A B.drew := h
theorem KeepIv.cell {lo hi : Nat} {A B : World} (h : KeepIv lo hi A B) {b o : Nat} (h1 : lo ≤ b) (h2 : b < hi) : B.cell? ⟨b, o, none⟩ = A.cell? ⟨b, o, none⟩ := World.cell?_of_block (h b h1 h2)
/-- a column and a row, also outside of the area -/
abbrev Cr := { p : Int × Int // -4 ≤ p.1 ∧ p.1 ≤ 27 ∧ -4 ≤ p.2 ∧ p.2 ≤ 600 }
def crs (x : Cr) : Array Value := #[.int .i64 x.1.1, .int .i64 x.1.2]
/-- what has come ahead of row step N, column step E -/
def PreS (wd : Int) (h : Hr) (c : Nat) (N E : Int) (pre : List Cr) : Prop :=
  ∀ x y : Int, (∃ p ∈ pre, p.1 = (x, y)) ↔ ∃ e n : Int, (n < N ∨ (n = N ∧ e < E)) ∧ h.eLo ≤ e ∧ e ≤ h.eHi ∧ h.nLo ≤ n ∧ n ≤ h.nHi ∧ x = (c : Int) % wd + e ∧ y = (c : Int) / wd + n
theorem PreS.start (wd : Int) (h : Hr) (c : Nat) : PreS wd h c h.nLo h.eLo [] := fun x y =>
  ⟨fun ⟨_, hp, _⟩ => (by cases hp), fun ⟨e, n, a, b1, b2, b3, b4, _⟩ => (by omega)⟩
theorem PreS.row {wd : Int} {h : Hr} {c : Nat} {N E : Int} {pre : List Cr} (g : PreS wd h c N E pre) (hE : h.eHi < E) : PreS wd h c (N + 1) h.eLo pre := fun x y =>
  (g x y).trans ⟨fun ⟨e, n, a, b1, b2, b3, b4, r⟩ => ⟨e, n, by omega, b1, b2, b3, b4, r⟩, fun ⟨e, n, a, b1, b2, b3, b4, r⟩ => ⟨e, n, by omega, b1, b2, b3, b4, r⟩⟩
theorem PreS.step {wd : Int} {h : Hr} {c : Nat} {N E : Int} {pre : List Cr} (g : PreS wd h c N E pre) (h1 : h.eLo ≤ E) (h2 : E ≤ h.eHi) (h3 : h.nLo ≤ N) (h4 : N ≤ h.nHi) (p : Cr) (hp : p.1 = ((c : Int) % wd + E, (c : Int) / wd + N)) : PreS wd h c N (E + 1) (pre ++ [p]) := fun x y => by
  constructor
  · rintro ⟨q, hq, e⟩
    rcases List.mem_append.1 hq with hq | hq
    · obtain ⟨e, n, a, r⟩ := (g x y).1 ⟨q, hq, e⟩
      exact ⟨e, n, by omega, r⟩
    · obtain rfl : q = p := by simpa using hq
      rw [hp] at e
      exact ⟨E, N, .inr ⟨rfl, by omega⟩, h1, h2, h3, h4, (Prod.mk.inj e).1.symm, (Prod.mk.inj e).2.symm⟩
  · rintro ⟨e, n, a, b1, b2, b3, b4, rx, ry⟩
    by_cases hc : n = N ∧ e = E
    · obtain ⟨rfl, rfl⟩ := hc
      exact ⟨p, by simp, by rw [hp, rx, ry]⟩
    · obtain ⟨q, hq, r⟩ := (g x y).2 ⟨e, n, by omega, b1, b2, b3, b4, rx, ry⟩
      exact ⟨q, List.mem_append_left _ hq, r⟩
/-- all that an hour's steps from a cell lead to -/
def AllS (wd : Int) (h : Hr) (c : Nat) (ys : List Cr) : Prop := ∀ x y : Int, (∃ p ∈ ys, p.1 = (x, y)) ↔ StepTo wd h c x y
theorem PreS.all {wd : Int} {h : Hr} {c : Nat} {N E : Int} {pre : List Cr} (g : PreS wd h c N E pre) (hN : h.nHi < N) : AllS wd h c pre := fun x y =>
  (g x y).trans ⟨fun ⟨e, n, a, b1, b2, b3, b4, r⟩ => ⟨e, n, b1, b2, b3, b4, r⟩, fun ⟨e, n, b1, b2, b3, b4, r⟩ => ⟨e, n, by omega, b1, b2, b3, b4, r⟩⟩
set_option maxRecDepth 100000 in
set_option maxHeartbeats 4000000 in
theorem drifts_in (n : Nat) (hn : 1 ≤ n) (l Bh Bc Ba lo hi : Nat) (wd : Int) (hw : 1 ≤ wd ∧ wd ≤ 24) (c : Nat) (hc : c < 576) (h : Hr) (he : h.eLo ≤ h.eHi ∧ -4 ≤ h.eLo ∧ h.eHi ≤ 4) (hno : h.nLo ≤ h.nHi ∧ -4 ≤ h.nLo ∧ h.nHi ≤ 4)
    (J Jx : List Cr → World → Prop) (hJ : ∀ pre W W', J pre W → Below W.heap.size W W' → J pre W')
    (hY : ∀ pre (x : Cr) W, J pre W → pre.length < 100 → YieldAt Fence.wide (n - 1) Try.prog l (crs x) W fun e W' =>
      (e = .returned (.bool true) ∧ J (pre ++ [x]) W' ∧ KeepIv lo hi W W') ∨ (e = .returned (.bool false) ∧ Jx (pre ++ [x]) W'))
    (W : World) (h0 : W.cell? ⟨Bh, 0, none⟩ = some (.int .i64 h.eLo)) (h1 : W.cell? ⟨Bh, 1, none⟩ = some (.int .i64 h.eHi)) (h2 : W.cell? ⟨Bh, 2, none⟩ = some (.int .i64 h.nLo)) (h3 : W.cell? ⟨Bh, 3, none⟩ = some (.int .i64 h.nHi))
    (h4 : W.cell? ⟨Bc, 0, none⟩ = some (.int .i64 c)) (h5 : W.cell? ⟨Ba, 0, none⟩ = some (.int .i64 wd)) (lh : lo ≤ Bh ∧ Bh < hi) (lc : lo ≤ Bc ∧ Bc < hi) (la : lo ≤ Ba ∧ Ba < hi) (hJ0 : J [] W) :
    CallsIn Fence.wide n Try.prog 114 #[.func (.yield l) #[] #[], .pointer (some ⟨Bh, 0, none⟩), .pointer (some ⟨Bc, 0, none⟩), .pointer (some ⟨Ba, 0, none⟩)] W fun e W' => (∃ v, e = .returned v) ∧
      ((∃ ys, AllS wd h c ys ∧ J ys W') ∨ (∃ pre, True ∧ Jx pre W')) := by
  have HJ := Lib.hid hJ
  have HP0 := Lib.hid (PreS.start wd h c)
  have HPR := Lib.hid (fun (N E : Int) pre (g : PreS wd h c N E pre) hE => g.row hE)
  have HPS := Lib.hid (fun (N E : Int) pre (g : PreS wd h c N E pre) a1 a2 a3 a4 p hp => g.step a1 a2 a3 a4 p hp)
  have HPA := Lib.hid (fun (N E : Int) pre (g : PreS wd h c N E pre) hN => g.all hN)
  clear hJ
  generalize AllS wd h c = AS at *
  generalize PreS wd h c = PS at *
  obtain ⟨ge0, ge1, ge2⟩ := he
  obtain ⟨gn0, gn1, gn2⟩ := hno
  have KK := Lib.hid (show ∀ w', KeepIv lo hi W w' → w'.cell? ⟨Bh, 0, none⟩ = some (.int .i64 h.eLo) ∧ w'.cell? ⟨Bh, 1, none⟩ = some (.int .i64 h.eHi) ∧ w'.cell? ⟨Bh, 2, none⟩ = some (.int .i64 h.nLo) ∧ w'.cell? ⟨Bh, 3, none⟩ = some (.int .i64 h.nHi) ∧ w'.cell? ⟨Bc, 0, none⟩ = some (.int .i64 c) ∧ w'.cell? ⟨Ba, 0, none⟩ = some (.int .i64 wd) from fun w' g =>
    ⟨(g.cell (o := 0) lh.1 lh.2).trans h0, (g.cell (o := 1) lh.1 lh.2).trans h1, (g.cell (o := 2) lh.1 lh.2).trans h2, (g.cell (o := 3) lh.1 lh.2).trans h3, (g.cell (o := 0) lc.1 lc.2).trans h4, (g.cell (o := 0) la.1 la.2).trans h5⟩)
  generalize h.eLo = e0 at *
  generalize h.eHi = e1 at *
  generalize h.nLo = n0 at *
  generalize h.nHi = n1 at *
  have bX1 := Int.emod_nonneg (c : Int) (show wd ≠ 0 by omega)
  have bX2 := Int.emod_lt_of_pos (c : Int) (show 0 < wd by omega)
  have bY1 : 0 ≤ (c : Int) / wd := Int.ediv_nonneg (by omega) (by omega)
  have bY2 : (c : Int) / wd ≤ (c : Int) := Int.ediv_le_self _ (by omega)
  have tX : (c : Int).tmod wd = (c : Int) % wd := Int.tmod_eq_emod_of_nonneg (by omega)
  have tY : (c : Int).tdiv wd = (c : Int) / wd := Int.tdiv_eq_ediv_of_nonneg (by omega)
  generalize (c : Int) % wd = cm at *
  generalize (c : Int) / wd = cq at *
  have v1 : IntKind.i64.wrap cm = cm := by rw [IntKind.wrap_i64]; omega
  have v3 : IntKind.i64.wrap cq = cq := by rw [IntKind.wrap_i64]; omega
  have hw0 : ¬ wd = 0 := by omega
  have HTX := Lib.hid tX
  have HTY := Lib.hid tY
  have HV1 := Lib.hid v1
  have HV3 := Lib.hid v3
  clear tX tY v1 v3
  refine callsIn_of_wp Try.func114 rfl trivial ?_ rfl
  simp only [Try.ntmps114, List.size_toArray, List.length_cons, List.length_nil, Nat.reduceAdd, Nat.reduceSub, Array.replicate_succ, Array.replicate_zero, List.push_toArray, List.append_toArray, List.nil_append, List.cons_append]
  gi_wp2
  clear h0 h1 h2 h3 h4 h5
  gi_loopw [5] (fun y wr => ∃ (N : Int) (pre : List Cr), n0 ≤ N ∧ N ≤ n1 + 1 ∧ y = .int .i64 N ∧ PS N e0 pre ∧ (pre.length : Int) ≤ 9 * (N - n0) ∧ J pre wr ∧ KeepIv lo hi W wr) (fun y _ => (n1 + 1 - intOf y).toNat)
  case atStart => exact ⟨n0, [], by omega, by omega, rfl, HP0.out, by simp, hJ0, KeepIv.refl _ _ _⟩
  case round =>
    obtain ⟨N, pre, hN0, hN1, rfl, hP, hlen, hJp, hg⟩ := hrel
    obtain ⟨k0, k1, k2, k3, k4, k5⟩ := KK.out _ hg
    have HG := Lib.hid hg
    have HP := Lib.hid hP
    have HJp := Lib.hid hJp
    clear hg hP hJp
    by_cases hNn : N ≤ n1
    · have vN : wrap64 (N + 1) = N + 1 := by unfold wrap64; omega
      gi_wp2
      clear k0 k1 k2 k3 k4 k5
      gi_loopw [6] (fun x wr => ∃ (E : Int) (pre : List Cr), e0 ≤ E ∧ E ≤ e1 + 1 ∧ x = .int .i64 E ∧ PS N E pre ∧ (pre.length : Int) ≤ 9 * (N - n0) + (E - e0) ∧ J pre wr ∧ KeepIv lo hi W wr) (fun x _ => (e1 + 1 - intOf x).toNat)
      case atStart => exact ⟨e0, pre, by omega, by omega, rfl, HP.out, by omega, HJp.out, HG.out⟩
      case round =>
        clear HG HP HJp hlen
        obtain ⟨E, pre, hE0, hE1, rfl, hP, hlen, hJp, hg⟩ := hrel
        obtain ⟨k0, k1, k2, k3, k4, k5⟩ := KK.out _ hg
        have HG := Lib.hid hg
        have HP := Lib.hid hP
        have HJp := Lib.hid hJp
        clear hg hP hJp
        by_cases hEe : E ≤ e1
        · have vE : wrap64 (E + 1) = E + 1 := by unfold wrap64; omega
          obtain ⟨X, hX⟩ : ∃ X, X = cm + E := ⟨_, rfl⟩
          obtain ⟨Y, hY2⟩ : ∃ Y, Y = cq + N := ⟨_, rfl⟩
          have v2 : IntKind.i64.wrap (cm + E) = X := by rw [IntKind.wrap_i64]; omega
          have v4 : IntKind.i64.wrap (cq + N) = Y := by rw [IntKind.wrap_i64]; omega
          obtain ⟨xx, hxx⟩ : ∃ xx : Cr, xx.1 = (X, Y) := ⟨⟨(X, Y), by simp only; omega⟩, rfl⟩
          have HPN := Lib.hid (HPS.out N E pre HP.out hE0 hEe hN0 hNn xx (by rw [hxx, hX, hY2]))
          have hJd : J pre wr.drew := HJ.out _ _ _ HJp.out (Below.refl _ _).drew
          obtain ⟨fn, tmps, assign, body, hy, hR⟩ := hY pre xx _ hJd (by omega)
          unfold crs at hy
          rw [hxx] at hy
          simp only at hy
          have tX := HTX.out
          have tY := HTY.out
          have v1 := HV1.out
          have v3 := HV3.out
          have HXE := Lib.hid hX
          clear hX hY2 hxx hJd
          gi_wp2
          refine region_S (st := 13) (S := fun w' => w'.cell? ⟨Bc, 0, none⟩ = some (.int .i64 c) ∧ w'.cell? ⟨Ba, 0, none⟩ = some (.int .i64 wd)) (by kernel_rfl) ⟨by simpa [go_sem] using k4, by simpa [go_sem] using k5⟩ (fun hHeld => ?_)
          refine anyS_take (i := 0) (oi := _) (v := Value.func (.yield l) #[] #[]) rfl (by kernel_rfl) (by kernel_rfl) (by kernel_rfl) (fun _ _ _ h => h) (Or.inl ⟨by rfl, fun w' hSw => ?_⟩) hHeld ?_
          · obtain ⟨t0, t1⟩ := hSw
            go_simp
            try simp [*]
            try (intro hh; exfalso; omega)
            try omega
          try simp only [Act.put, List.setIfInBounds_toArray, List.set_cons_zero, List.set_cons_succ, List.getElem_toArray, List.getElem_cons_succ, List.getElem_cons_zero]
          refine anyS_take (i := 1) (oi := _) (v := Value.int .i64 c) rfl (by kernel_rfl) (by kernel_rfl) (by kernel_rfl) (fun _ _ _ h => h) (Or.inl ⟨by rfl, fun w' hSw => ?_⟩) hHeld ?_
          · obtain ⟨t0, t1⟩ := hSw
            go_simp
            try simp [*]
            try (intro hh; exfalso; omega)
            try omega
          try simp only [Act.put, List.setIfInBounds_toArray, List.set_cons_zero, List.set_cons_succ, List.getElem_toArray, List.getElem_cons_succ, List.getElem_cons_zero]
          refine anyS_take (i := 2) (oi := _) (v := Value.pointer (some ⟨Ba, 0, none⟩)) rfl (by kernel_rfl) (by kernel_rfl) (by kernel_rfl) (fun _ _ _ h => h) (Or.inl ⟨by rfl, fun w' hSw => ?_⟩) hHeld ?_
          · obtain ⟨t0, t1⟩ := hSw
            go_simp
            try simp [*]
            try (intro hh; exfalso; omega)
            try omega
          try simp only [Act.put, List.setIfInBounds_toArray, List.set_cons_zero, List.set_cons_succ, List.getElem_toArray, List.getElem_cons_succ, List.getElem_cons_zero]
          refine anyS_take (i := 3) (oi := _) (v := Value.int .i64 wd) rfl (by kernel_rfl) (by kernel_rfl) (by kernel_rfl) (fun _ _ _ h => h) (Or.inl ⟨by rfl, fun w' hSw => ?_⟩) hHeld ?_
          · obtain ⟨t0, t1⟩ := hSw
            go_simp
            try simp [*]
            try (intro hh; exfalso; omega)
            try omega
          try simp only [Act.put, List.setIfInBounds_toArray, List.set_cons_zero, List.set_cons_succ, List.getElem_toArray, List.getElem_cons_succ, List.getElem_cons_zero]
          refine anyS_take (i := 4) (oi := _) (v := Value.int .i64 cm) rfl (by kernel_rfl) (by kernel_rfl) (by kernel_rfl) (fun _ _ _ h => h) (Or.inl ⟨by rfl, fun w' hSw => ?_⟩) hHeld ?_
          · obtain ⟨t0, t1⟩ := hSw
            go_simp
            try simp [*]
            try (intro hh; exfalso; omega)
            try omega
          try simp only [Act.put, List.setIfInBounds_toArray, List.set_cons_zero, List.set_cons_succ, List.getElem_toArray, List.getElem_cons_succ, List.getElem_cons_zero]
          refine anyS_take (i := 5) (oi := _) (v := Value.int .i64 E) rfl (by kernel_rfl) (by kernel_rfl) (by kernel_rfl) (fun _ _ _ h => h) (Or.inl ⟨by rfl, fun w' hSw => ?_⟩) hHeld ?_
          · obtain ⟨t0, t1⟩ := hSw
            go_simp
            try simp [*]
            try (intro hh; exfalso; omega)
            try omega
          try simp only [Act.put, List.setIfInBounds_toArray, List.set_cons_zero, List.set_cons_succ, List.getElem_toArray, List.getElem_cons_succ, List.getElem_cons_zero]
          refine anyS_take (i := 6) (oi := _) (v := Value.int .i64 X) rfl (by kernel_rfl) (by kernel_rfl) (by kernel_rfl) (fun _ _ _ h => h) (Or.inl ⟨by rfl, fun w' hSw => ?_⟩) hHeld ?_
          · obtain ⟨t0, t1⟩ := hSw
            go_simp
            try simp [*]
            try (intro hh; exfalso; omega)
            try omega
          try simp only [Act.put, List.setIfInBounds_toArray, List.set_cons_zero, List.set_cons_succ, List.getElem_toArray, List.getElem_cons_succ, List.getElem_cons_zero]
          refine anyS_take (i := 7) (oi := _) (v := Value.int .i64 c) rfl (by kernel_rfl) (by kernel_rfl) (by kernel_rfl) (fun _ _ _ h => h) (Or.inl ⟨by rfl, fun w' hSw => ?_⟩) hHeld ?_
          · obtain ⟨t0, t1⟩ := hSw
            go_simp
            try simp [*]
            try (intro hh; exfalso; omega)
            try omega
          try simp only [Act.put, List.setIfInBounds_toArray, List.set_cons_zero, List.set_cons_succ, List.getElem_toArray, List.getElem_cons_succ, List.getElem_cons_zero]
          refine anyS_take (i := 8) (oi := _) (v := Value.pointer (some ⟨Ba, 0, none⟩)) rfl (by kernel_rfl) (by kernel_rfl) (by kernel_rfl) (fun _ _ _ h => h) (Or.inl ⟨by rfl, fun w' hSw => ?_⟩) hHeld ?_
          · obtain ⟨t0, t1⟩ := hSw
            go_simp
            try simp [*]
            try (intro hh; exfalso; omega)
            try omega
          try simp only [Act.put, List.setIfInBounds_toArray, List.set_cons_zero, List.set_cons_succ, List.getElem_toArray, List.getElem_cons_succ, List.getElem_cons_zero]
          refine anyS_take (i := 9) (oi := _) (v := Value.int .i64 wd) rfl (by kernel_rfl) (by kernel_rfl) (by kernel_rfl) (fun _ _ _ h => h) (Or.inl ⟨by rfl, fun w' hSw => ?_⟩) hHeld ?_
          · obtain ⟨t0, t1⟩ := hSw
            go_simp
            try simp [*]
            try (intro hh; exfalso; omega)
            try omega
          try simp only [Act.put, List.setIfInBounds_toArray, List.set_cons_zero, List.set_cons_succ, List.getElem_toArray, List.getElem_cons_succ, List.getElem_cons_zero]
          refine anyS_take (i := 10) (oi := _) (v := Value.int .i64 cq) rfl (by kernel_rfl) (by kernel_rfl) (by kernel_rfl) (fun _ _ _ h => h) (Or.inl ⟨by rfl, fun w' hSw => ?_⟩) hHeld ?_
          · obtain ⟨t0, t1⟩ := hSw
            go_simp
            try simp [*]
            try (intro hh; exfalso; omega)
            try omega
          try simp only [Act.put, List.setIfInBounds_toArray, List.set_cons_zero, List.set_cons_succ, List.getElem_toArray, List.getElem_cons_succ, List.getElem_cons_zero]
          refine anyS_take (i := 11) (oi := _) (v := Value.int .i64 N) rfl (by kernel_rfl) (by kernel_rfl) (by kernel_rfl) (fun _ _ _ h => h) (Or.inl ⟨by rfl, fun w' hSw => ?_⟩) hHeld ?_
          · obtain ⟨t0, t1⟩ := hSw
            go_simp
            try simp [*]
            try (intro hh; exfalso; omega)
            try omega
          try simp only [Act.put, List.setIfInBounds_toArray, List.set_cons_zero, List.set_cons_succ, List.getElem_toArray, List.getElem_cons_succ, List.getElem_cons_zero]
          refine anyS_take (i := 12) (oi := _) (v := Value.int .i64 Y) rfl (by kernel_rfl) (by kernel_rfl) (by kernel_rfl) (fun _ _ _ h => h) (Or.inl ⟨by rfl, fun w' hSw => ?_⟩) hHeld ?_
          · obtain ⟨t0, t1⟩ := hSw
            go_simp
            try simp [*]
            try (intro hh; exfalso; omega)
            try omega
          try simp only [Act.put, List.setIfInBounds_toArray, List.set_cons_zero, List.set_cons_succ, List.getElem_toArray, List.getElem_cons_succ, List.getElem_cons_zero]
          clear hHeld
          refine anyS_one (i := 13) (by kernel_rfl) rfl (by rfl) (by rfl) (fun K hK => ?_)
          go_simp
          refine hR.mono ?_
          rintro e W3 (⟨rfl, hJ3, hk3⟩ | ⟨rfl, hJx3⟩)
          · refine hK.out _ _ ?_
            clear hK K
            try simp only [Act.put, List.setIfInBounds_toArray, List.set_cons_zero, List.set_cons_succ, List.getElem_toArray, List.getElem_cons_succ, List.getElem_cons_zero]
            refine anyS_one (i := 14) (by kernel_rfl) rfl (by rfl) (by rfl) (fun K hK => ?_)
            go_simp
            refine hK.out _ _ ?_
            clear hK K
            try simp only [Act.put, List.setIfInBounds_toArray, List.set_cons_zero, List.set_cons_succ, List.getElem_toArray, List.getElem_cons_succ, List.getElem_cons_zero]
            refine anyS_done (by kernel_rfl) ?_ _
            gi_wp2
            go_roundw
            case rel => exact ⟨E + 1, _, by omega, by omega, by go_num, HPN.out, by simp; omega, hJ3, HG.out.drew.trans hk3⟩
            case measure => simp [intOf]; omega
          · refine hK.out _ _ ?_
            clear hK K
            try simp only [Act.put, List.setIfInBounds_toArray, List.set_cons_zero, List.set_cons_succ, List.getElem_toArray, List.getElem_cons_succ, List.getElem_cons_zero]
            refine anyS_one (i := 14) (by kernel_rfl) rfl (by rfl) (by rfl) (fun K hK => ?_)
            go_simp
            refine hK.out _ _ ?_
            clear hK K
            try simp only [Act.put, List.setIfInBounds_toArray, List.set_cons_zero, List.set_cons_succ, List.getElem_toArray, List.getElem_cons_succ, List.getElem_cons_zero]
            refine anyS_done (by kernel_rfl) ?_ _
            gi_wp2
            refine bodyPost_ret (results_none rfl _ _ _) rfl ?_
            exact ⟨⟨_, rfl⟩, .inr ⟨_, trivial, hJx3⟩⟩
        · obtain rfl : E = e1 + 1 := by omega
          gi_wp2
          go_roundw
          case rel => exact ⟨N + 1, pre, by omega, by omega, by go_num, HPR.out _ _ _ HP.out (by omega), by omega, HJp.out, HG.out⟩
          case measure => simp [intOf]; omega
    · gi_wp2
      go_end0
      exact ⟨⟨_, rfl⟩, .inl ⟨pre, HPA.out _ _ _ HP.out (by omega), HJp.out⟩⟩
theorem drifts_stops (n : Nat) (hn : 1 ≤ n) (Bh Bc Ba lo hi : Nat) (wd : Int) (hw : 1 ≤ wd ∧ wd ≤ 24) (c : Nat) (hc : c < 576) (h : Hr) (he : h.eLo ≤ h.eHi ∧ -4 ≤ h.eLo ∧ h.eHi ≤ 4) (hno : h.nLo ≤ h.nHi ∧ -4 ≤ h.nLo ∧ h.nHi ≤ 4) (w : World)
    (h0 : w.cell? ⟨Bh, 0, none⟩ = some (.int .i64 h.eLo)) (h1 : w.cell? ⟨Bh, 1, none⟩ = some (.int .i64 h.eHi)) (h2 : w.cell? ⟨Bh, 2, none⟩ = some (.int .i64 h.nLo)) (h3 : w.cell? ⟨Bh, 3, none⟩ = some (.int .i64 h.nHi))
    (h4 : w.cell? ⟨Bc, 0, none⟩ = some (.int .i64 c)) (h5 : w.cell? ⟨Ba, 0, none⟩ = some (.int .i64 wd)) (lh : lo ≤ Bh ∧ Bh < hi) (lc : lo ≤ Bc ∧ Bc < hi) (la : lo ≤ Ba ∧ Ba < hi) (hn0 : hi ≤ w.heap.size) :
    SeqStopsK Fence.wide n Try.prog 114 #[.pointer (some ⟨Bh, 0, none⟩), .pointer (some ⟨Bc, 0, none⟩), .pointer (some ⟨Ba, 0, none⟩)] crs (KeepIv lo hi) (AllS wd h c) (fun _ => True) 100 w := fun l J Jx W hW hJ _ hY h00 => by
  exact drifts_in n hn l Bh Bc Ba lo hi wd hw c hc h he hno J Jx (fun pre A B g hb => hJ pre A B none g ⟨hb.os, hb.tape, hb.output, hb.size, fun k hk _ => hb.block k hk⟩ (fun r e => by cases e)) hY W
    ((hW.cell (p := ⟨Bh, 0, none⟩) (by show Bh < _; omega)).trans h0) ((hW.cell (p := ⟨Bh, 1, none⟩) (by show Bh < _; omega)).trans h1) ((hW.cell (p := ⟨Bh, 2, none⟩) (by show Bh < _; omega)).trans h2) ((hW.cell (p := ⟨Bh, 3, none⟩) (by show Bh < _; omega)).trans h3) ((hW.cell (p := ⟨Bc, 0, none⟩) (by show Bc < _; omega)).trans h4) ((hW.cell (p := ⟨Ba, 0, none⟩) (by show Ba < _; omega)).trans h5) lh lc la h00
set_option maxHeartbeats 1000000 in
theorem drifts_any (wd hg : Int) (c : Int) (e0 e1 n0 n1 : Int) (s : Value) (w : World) :
    Calls Try.prog 105 #[.agg #[.int .i64 wd, .int .i64 hg], .int .i64 c, .agg #[.int .i64 e0, .int .i64 e1, .int .i64 n0, .int .i64 n1, s]] w fun e w' => e = .returned (.func (.func 114) #[] #[.pointer (some ⟨w.heap.size + 2, 0, none⟩), .pointer (some ⟨w.heap.size + 1, 0, none⟩), .pointer (some ⟨w.heap.size, 0, none⟩)]) ∧
      w' = ((w.alloc (.cells #[.int .i64 wd, .int .i64 hg] 54)).alloc (.cells #[.int .i64 c] 3)).alloc (.cells #[.int .i64 e0, .int .i64 e1, .int .i64 n0, .int .i64 n1, s] 81) := by
  go_enter Try.func105, Try.ntmps105
  go_wp2_with fail
  go_ret
  exact ⟨by simp, rfl⟩
end Go.Proofs.Ythogahdnidjelaa
namespace Go.Proofs.Ythogahdnidjelaa
open Go.RowKit Go.Shelf
set_option linter.unusedSimpArgs false
theorem CellsKept.refl (W : World) : CellsKept W W := fun _ _ h _ => h
theorem CellsKept.trans {A B C : World} (h : CellsKept A B) (k : CellsKept B C) : CellsKept A C := fun i o h1 h2 => k i o (h i o h1 h2) h2
theorem CellsKept.of_below {W W' : World} (h : Below W.heap.size W W') : CellsKept W W' := fun k _ hk _ => (h.block k (Array.getElem?_eq_some_iff.1 hk).1).trans hk
theorem CellsKept.of_grown {W W' : World} {row : Option Nat} (hg : W.grownBy W' row) (hr : ∀ r, row = some r → ∃ o : Obj, W.heap[r]? = some o ∧ o.isCells = false) : CellsKept W W' := fun _ _ hk hc => (grownBy_keeps_cells hg hr hk hc).trans hk
theorem CellsKept.cell {W W' : World} (h : CellsKept W W') {a : Addr} {v : Value} (hv : W.cell? a = some v) : W'.cell? a = some v := by
  obtain ⟨o, ho, hc⟩ := cells_of_cell hv
  exact (World.cell?_of_block ((h _ _ ho hc).trans ho.symm)).trans hv
theorem CellsKept.frozen {W W' : World} (h : CellsKept W W') {a : Addr} {v : Value} (hv : W.cell? a = some v) : W'.frozen? a = W.frozen? a := by
  obtain ⟨o, ho, hc⟩ := cells_of_cell hv
  exact World.frozen?_of_block ((h _ _ ho hc).trans ho.symm)
theorem frozen_spot {W : World} {S : Nat} {v : Value} (o o' : Nat) (hv : W.cell? ⟨S, o, none⟩ = some v) {W' : World} (h : CellsKept W W') : W'.frozen? ⟨S, o', none⟩ = W.frozen? ⟨S, o', none⟩ := by
  obtain ⟨ob, ho, hc⟩ := cells_of_cell hv
  exact World.frozen?_of_block ((h _ _ ho hc).trans ho.symm)
theorem SrchAt.kept {W W' : World} {S B : Nat} {wd hg : Int} {n : Nat} {left : Bool} (h : SrchAt W S B wd hg n left) (hk : CellsKept W W') (hz : W.heap.size ≤ W'.heap.size) : SrchAt W' S B wd hg n left := by
  obtain ⟨l, c0, c1, c2, c3, f⟩ := h
  exact ⟨Nat.lt_of_lt_of_le l hz, hk.cell c0, hk.cell c1, hk.cell c2, hk.cell c3, fun o => (frozen_spot 0 o c0 hk).trans (f o)⟩
theorem BB.kept {W W' : World} {B : Nat} {bs : List Bool} (h : BB W B bs) (hk : CellsKept W W') : BB W' B bs := hk _ _ h rfl
/-- what lies in memory while an hour passes -/
structure PaAt (W : World) (P H T X S B : Nat) (wd hg : Int) (n : Nat) (h : Hr) (sv : Value) (bs l : List Bool) (lf : Bool) : Prop where
  p : W.cell? ⟨P, 0, none⟩ = some (.pointer (some ⟨S, 0, none⟩))
  h0 : W.cell? ⟨H, 0, none⟩ = some (.int .i64 h.eLo)
  h1 : W.cell? ⟨H, 1, none⟩ = some (.int .i64 h.eHi)
  h2 : W.cell? ⟨H, 2, none⟩ = some (.int .i64 h.nLo)
  h3 : W.cell? ⟨H, 3, none⟩ = some (.int .i64 h.nHi)
  h4 : W.cell? ⟨H, 4, none⟩ = some sv
  t : W.cell? ⟨X, 0, none⟩ = some (.slice (some ⟨T, 0, none⟩) n n)
  s : SrchAt W S B wd hg n lf
  b : BB W B bs
  m : BB W T l
theorem PaAt.kept {W W' : World} {P H T X S B : Nat} {wd hg : Int} {n : Nat} {h : Hr} {sv : Value} {bs l : List Bool} {lf : Bool} (g : PaAt W P H T X S B wd hg n h sv bs l lf) (hk : CellsKept W W') (hz : W.heap.size ≤ W'.heap.size) : PaAt W' P H T X S B wd hg n h sv bs l lf :=
  ⟨hk.cell g.p, hk.cell g.h0, hk.cell g.h1, hk.cell g.h2, hk.cell g.h3, hk.cell g.h4, hk.cell g.t, g.s.kept hk hz, g.b.kept hk, g.m.kept hk⟩
theorem far_cell {W : World} {C o : Nat} {u v : Value} {b o' : Nat} (hne : C ≠ b) (hv : W.cell? ⟨b, o', none⟩ = some v) : (W.setCell ⟨C, o, none⟩ u).cell? ⟨b, o', none⟩ = some v :=
  (World.cell?_setCell_other _ _ _ _ (by intro e; exact hne (Addr.mk.inj e).1)).trans hv
theorem PaAt.setM {W : World} {P H T X S B : Nat} {wd hg : Int} {n : Nat} {h : Hr} {sv : Value} {bs l : List Bool} {lf : Bool} (g : PaAt W P H T X S B wd hg n h sv bs l lf) (ho : B ≠ S ∧ B < P ∧ S < P ∧ P < H ∧ H < T ∧ T < X) (k : Nat) (v : Bool) : PaAt (W.setCell ⟨T, k, none⟩ (.bool v)) P H T X S B wd hg n h sv bs (l.set k v) lf :=
  ⟨far_cell (by omega) g.p, far_cell (by omega) g.h0, far_cell (by omega) g.h1, far_cell (by omega) g.h2, far_cell (by omega) g.h3, far_cell (by omega) g.h4, far_cell (by omega) g.t, g.s.far (by omega), g.b.far (by omega), g.m.set v⟩
theorem PaAt.setL {W : World} {P H T X S B : Nat} {wd hg : Int} {n : Nat} {h : Hr} {sv : Value} {bs l : List Bool} {lf : Bool} (g : PaAt W P H T X S B wd hg n h sv bs l lf) (ho : B ≠ S ∧ B < P ∧ S < P ∧ P < H ∧ H < T ∧ T < X) (v : Bool) : PaAt (W.setCell ⟨S, 3, none⟩ (.bool v)) P H T X S B wd hg n h sv bs l v := by
  refine ⟨far_cell (by omega) g.p, far_cell (by omega) g.h0, far_cell (by omega) g.h1, far_cell (by omega) g.h2, far_cell (by omega) g.h3, far_cell (by omega) g.h4, far_cell (by omega) g.t, ?_, g.b.far (by omega), g.m.far (by omega)⟩
  obtain ⟨l, c0, c1, c2, c3, f⟩ := g.s
  have e : ∀ o' x, o' ≠ 3 → W.cell? ⟨S, o', none⟩ = some x → (W.setCell ⟨S, 3, none⟩ (.bool v)).cell? ⟨S, o', none⟩ = some x := fun o' x ho hx =>
    (World.cell?_setCell_other _ _ _ _ (by intro q; exact ho (Addr.mk.inj q).2.1.symm)).trans hx
  exact ⟨by simpa using l, e 0 _ (by decide) c0, e 1 _ (by decide) c1, e 2 _ (by decide) c2, World.cell?_setCell_same' _ _ _ (by rw [c3]; rfl), fun o' => by simpa [go_sem] using f o'⟩
theorem SrchAt.setMay {W : World} {S B : Nat} {wd hg : Int} {n : Nat} {left : Bool} (h : SrchAt W S B wd hg n left) (T : Nat) : SrchAt (W.setCell ⟨S, 2, none⟩ (.slice (some ⟨T, 0, none⟩) n n)) S T wd hg n left := by
  obtain ⟨l, c0, c1, c2, c3, f⟩ := h
  have e : ∀ o' x, o' ≠ 2 → W.cell? ⟨S, o', none⟩ = some x → (W.setCell ⟨S, 2, none⟩ (.slice (some ⟨T, 0, none⟩) n n)).cell? ⟨S, o', none⟩ = some x := fun o' x ho hx =>
    (World.cell?_setCell_other _ _ _ _ (by intro q; exact ho (Addr.mk.inj q).2.1.symm)).trans hx
  exact ⟨by simpa using l, e 0 _ (by decide) c0, e 1 _ (by decide) c1, World.cell?_setCell_same' _ _ _ (by rw [c2]; rfl), e 3 _ (by decide) c3, fun o' => by simpa [go_sem] using f o'⟩
/-- what the steps pre of one cell have done -/
def PcL (wd hg : Int) (l0 : List Bool) (lf0 : Bool) (pre : List Cr) (l : List Bool) (lf : Bool) : Prop :=
  l.length = l0.length ∧ (∀ j, j < l0.length → (bAt l j = true ↔ bAt l0 j = true ∨ ∃ p ∈ pre, InA wd hg p.1.1 p.1.2 ∧ p.1.2 * wd + p.1.1 = (j : Int))) ∧ (lf = true ↔ lf0 = true ∨ ∃ p ∈ pre, ¬ InA wd hg p.1.1 p.1.2)
theorem PcL.start (wd hg : Int) (l0 : List Bool) (lf0 : Bool) : PcL wd hg l0 lf0 [] l0 lf0 := ⟨rfl, fun j _ => by simp, by simp⟩
theorem ex_snoc {α : Type} {q : α → Prop} (pre : List α) (x : α) : (∃ p ∈ pre ++ [x], q p) ↔ (∃ p ∈ pre, q p) ∨ q x := by
  constructor
  · rintro ⟨p, hp, h⟩
    rcases List.mem_append.1 hp with hp | hp
    · exact .inl ⟨p, hp, h⟩
    · obtain rfl : p = x := by simpa using hp
      exact .inr h
  · rintro (⟨p, hp, h⟩ | h)
    · exact ⟨p, List.mem_append_left _ hp, h⟩
    · exact ⟨x, by simp, h⟩
theorem PcL.out {wd hg : Int} {l0 l : List Bool} {lf0 lf : Bool} {pre : List Cr} (g : PcL wd hg l0 lf0 pre l lf) (x : Cr) (ho : ¬ InA wd hg x.1.1 x.1.2) : PcL wd hg l0 lf0 (pre ++ [x]) l true :=
  ⟨g.1, fun j hj => by rw [ex_snoc, g.2.1 j hj]; exact ⟨fun q => q.elim .inl (fun r => .inr (.inl r)), fun q => q.elim .inl (fun r => r.elim .inr (fun s => absurd s.1 ho))⟩, by rw [ex_snoc]; exact ⟨fun _ => .inr (.inr ho), fun _ => rfl⟩⟩
theorem PcL.inn {wd hg : Int} {l0 l : List Bool} {lf0 lf : Bool} {pre : List Cr} (g : PcL wd hg l0 lf0 pre l lf) (x : Cr) (hi : InA wd hg x.1.1 x.1.2) {m : Nat} (hm : x.1.2 * wd + x.1.1 = (m : Int)) (hml : m < l0.length) : PcL wd hg l0 lf0 (pre ++ [x]) (l.set m true) lf := by
  refine ⟨by simpa using g.1, fun j hj => ?_, by rw [ex_snoc, g.2.2]; exact ⟨fun q => q.elim .inl (fun r => .inr (.inl r)), fun q => q.elim .inl (fun r => r.elim .inr (fun s => absurd hi s))⟩⟩
  rw [ex_snoc, bAt_set _ _ _ _ (by rw [g.1]; exact hml), hm]
  by_cases e : j = m
  · subst e; rw [if_pos rfl]; exact ⟨fun _ => .inr (.inr ⟨hi, rfl⟩), fun _ => rfl⟩
  · rw [if_neg e, g.2.1 j hj]
    exact ⟨fun q => q.elim .inl (fun r => .inr (.inl r)), fun q => q.elim .inl (fun r => r.elim .inr (fun s => absurd s.2 (by omega)))⟩
theorem ahead_cell {h : Hr} {bs : List Bool} {c c' : Nat} {e n : Int} (hi : Is h bs c' e n) : Ahead (c + 1) h.eLo h.nLo c' e n ↔ Ahead c h.eLo h.nLo c' e n ∨ c' = c := by
  obtain ⟨-, -, h1, h2, h3, h4⟩ := hi
  unfold Ahead
  omega
/-- behind all steps of a cell -/
theorem PcL.all {wd hg : Int} {h : Hr} {bs l0 l : List Bool} {lf0 lf : Bool} {c : Nat} {ys : List Cr} (hc : c < bs.length) (hb : bAt bs c = true) (d : DrL wd hg h bs c h.eLo h.nLo l0 lf0) (ha : AllS wd h c ys) (g : PcL wd hg l0 lf0 ys l lf) : DrL wd hg h bs (c + 1) h.eLo h.nLo l lf := by
  refine ⟨g.1.trans d.1, fun j hj => ?_, ?_⟩
  · rw [g.2.1 j (by rw [d.1]; exact hj), d.2.1 j hj]
    constructor
    · rintro (⟨c', e, n, a, i, r⟩ | ⟨p, hp, r1, r2⟩)
      · exact ⟨c', e, n, (ahead_cell i).2 (.inl a), i, r⟩
      · obtain ⟨e, n, b1, b2, b3, b4, rx, ry⟩ := (ha p.1.1 p.1.2).1 ⟨p, hp, rfl⟩
        have i : Is h bs c e n := ⟨hc, hb, b1, b2, b3, b4⟩
        exact ⟨c, e, n, (ahead_cell i).2 (.inr rfl), i, by unfold toX toY; rw [← rx, ← ry]; exact ⟨r1, r2⟩⟩
    · rintro ⟨c', e, n, a, i, r⟩
      rcases (ahead_cell i).1 a with a | rfl
      · exact .inl ⟨c', e, n, a, i, r⟩
      · obtain ⟨-, -, b1, b2, b3, b4⟩ := i
        obtain ⟨p, hp, q⟩ := (ha (toX wd c' e) (toY wd c' n)).2 ⟨e, n, b1, b2, b3, b4, rfl, rfl⟩
        exact .inr ⟨p, hp, by rw [q]; exact r⟩
  · rw [g.2.2, d.2.2]
    constructor
    · rintro (⟨c', e, n, a, i, r⟩ | ⟨p, hp, r1⟩)
      · exact ⟨c', e, n, (ahead_cell i).2 (.inl a), i, r⟩
      · obtain ⟨e, n, b1, b2, b3, b4, rx, ry⟩ := (ha p.1.1 p.1.2).1 ⟨p, hp, rfl⟩
        have i : Is h bs c e n := ⟨hc, hb, b1, b2, b3, b4⟩
        exact ⟨c, e, n, (ahead_cell i).2 (.inr rfl), i, by unfold toX toY; rw [← rx, ← ry]; exact r1⟩
    · rintro ⟨c', e, n, a, i, r⟩
      rcases (ahead_cell i).1 a with a | rfl
      · exact .inl ⟨c', e, n, a, i, r⟩
      · obtain ⟨-, -, b1, b2, b3, b4⟩ := i
        obtain ⟨p, hp, q⟩ := (ha (toX wd c' e) (toY wd c' n)).2 ⟨e, n, b1, b2, b3, b4, rfl, rfl⟩
        exact .inr ⟨p, hp, by rw [q]; exact r⟩
/-- open marks stay -/
def KeepMarks (W W' : World) : Prop := ∀ D : Nat, W.heap[D]? = some (.deferred (some [])) → W'.heap[D]? = some (.deferred (some []))
/-- between two steps of a cell -/
def PI (n₀ P H T X S B : Nat) (wd hg : Int) (n : Nat) (h : Hr) (sv : Value) (bs l0 : List Bool) (lf0 lf1 : Bool) (w wr : World) (pre : List Cr) (W : World) : Prop :=
  (∃ l lf, PaAt W P H T X S B wd hg n h sv bs l (lf0 || lf) ∧ PcL wd hg l0 lf1 pre l lf) ∧ KeepMarks wr W ∧ Below n₀ w W ∧ wr.heap.size ≤ W.heap.size
theorem pi_own {n₀ P H T X S B : Nat} {wd hg : Int} {n : Nat} {h : Hr} {sv : Value} {bs l0 : List Bool} {lf0 lf1 : Bool} {w wr : World} {N : Nat} (h1 : n₀ ≤ wr.heap.size) (h2 : wr.heap.size ≤ N) : OwnFrom N (PI n₀ P H T X S B wd hg n h sv bs l0 lf0 lf1 w wr) := by
  rintro pre W W' row ⟨⟨l, lf, g, c⟩, hm, hb, hz⟩ hg hr
  refine ⟨⟨l, lf, g.kept (CellsKept.of_grown hg (fun r e => (hr r e).2)) hg.size, c⟩, fun D hD => ?_, hb.grown hg (Nat.le_trans h1 hz) (fun r e => Nat.le_trans h1 (Nat.le_trans h2 (hr r e).1)), Nat.le_trans hz hg.size⟩
  have h3 := hm D hD
  refine (hg.block D (Array.getElem?_eq_some_iff.1 h3).1 (fun e => ?_)).trans h3
  have h4 := (hr D e.symm).1
  have h5 := (Array.getElem?_eq_some_iff.1 hD).1
  omega
theorem KeepMarks.setCell {W W' : World} (h : KeepMarks W W') (b o : Nat) (v u : Value) (o' : Nat) (hu : W'.cell? ⟨b, o', none⟩ = some u) : KeepMarks W (W'.setCell ⟨b, o, none⟩ v) := fun D hD => by
  have h1 := h D hD
  have hne : D ≠ b := fun e => by
    subst e
    obtain ⟨ob, ho, hc⟩ := cells_of_cell hu
    rw [show W'.heap[D]? = some (.deferred (some [])) from h1] at ho
    cases ho
    cases hc
  exact (Below.heap_setCell _ _ _ _ hne).trans h1
theorem Marks.fresh {base : Nat} {W : World} {D : Nat} (hD : W.heap.size ≤ D) : ∀ {ds : List Deferred}, Marks base W ds → ∀ d' ∈ ds, d' ≠ { target := .collected D, args := #[] }
  | [], _, _, h => by cases h
  | d :: ds, ⟨⟨E, _, he, hE, _⟩, hs⟩, d', h => by
    rcases List.mem_cons.1 h with rfl | h
    · intro e
      rw [he] at e
      have e2 : E = D := by injection e with e3; injection e3
      have := (Array.getElem?_eq_some_iff.1 hE).1
      omega
    · exact hs.fresh hD d' h
end Go.Proofs.Ythogahdnidjelaa
namespace Go.Proofs.Ythogahdnidjelaa
open Go.RowKit Go.Shelf
attribute [local go_sem] Oper.semAt_some
set_option linter.unusedSimpArgs false
theorem block_of {W : World} {b o : Nat} {v : Value} (h : W.cell? ⟨b, o, none⟩ = some v) : b < W.heap.size := World.block_lt_of_cell? W ⟨b, o, none⟩ h
set_option maxRecDepth 100000 in
set_option maxHeartbeats 8000000 in
theorem pass_any (wd hg : Int) (hw : 1 ≤ wd ∧ wd ≤ 24) (hh : 1 ≤ hg ∧ hg ≤ 24) (n₀ S B : Nat) (hS0 : n₀ ≤ S) (hBS : B ≠ S) (lf0 : Bool) (bs : List Bool) (hn : wd * hg = (bs.length : Int)) (h : Hr) (sv : Value) (w : World) (hA : SrchAt w S B wd hg bs.length lf0) (hB : BB w B bs) (hI : Nums n₀ w sv h.se) (hok : hrOk wd hg h = true) :
    Calls Try.prog 84 #[.pointer (some ⟨S, 0, none⟩), .agg #[.int .i64 h.eLo, .int .i64 h.eHi, .int .i64 h.nLo, .int .i64 h.nHi, sv]] w fun e w' => (∃ v, e = .returned v) ∧ ∃ B', SrchAt w' S B' wd hg bs.length (lf0 || leftB wd hg h bs) ∧ BB w' B' (nextB wd hg h bs) ∧ w.heap.size ≤ B' ∧ w.heap.size ≤ w'.heap.size ∧ Below n₀ w w' := by
  obtain ⟨⟨⟨ge0, ge1, ge2⟩, gn0, gn1, gn2⟩, har⟩ := hrOk_get hok
  clear hok
  have hn576 : bs.length ≤ 576 := by
    have a := Int.mul_le_mul hw.2 hh.2 (by omega) (by omega)
    omega
  have Wn : IntKind.i64.wrap (bs.length : Int) = (bs.length : Int) := by rw [IntKind.wrap_i64]; omega
  have hSl := hA.lt
  have HNN := Lib.hid (areB_nn har)
  rw [hn] at HNN
  have hsl576 := areB_len (n := bs.length) (by rw [← hn]; exact har)
  have HCI := Lib.hid (fun (x y : Int) (g : InA wd hg x y) => cell_in hn g)
  have HST := Lib.hid (DrL.start wd hg h bs)
  have HNO := Lib.hid (fun (c : Nat) (E N : Int) l lf (g : DrL wd hg h bs c E N l lf) hb => g.no hb)
  have HLEN := Lib.hid (fun (c : Nat) (E N : Int) l lf (g : DrL wd hg h bs c E N l lf) => g.1)
  have HALL := Lib.hid (fun (c : Nat) (l0 l : List Bool) (lf0 lf : Bool) (ys : List Cr) (hc : c < bs.length) (hb : bAt bs c = true) (d : DrL wd hg h bs c h.eLo h.nLo l0 lf0) (ha : AllS wd h c ys) (g : PcL wd hg l0 lf0 ys l lf) => PcL.all hc hb d ha g)
  have HSE := Lib.hid (fun (E N : Int) l lf (g : DrL wd hg h bs bs.length E N l lf) => g.se)
  have HSS := Lib.hid (fun (k m : Nat) l (g : SeL wd hg h bs k l) hm => g.step (m := m) hm)
  have HSL := Lib.hid (fun (k : Nat) l (g : SeL wd hg h bs k l) => g.1)
  have HSA := Lib.hid (fun l (g : SeL wd hg h bs h.se.length l) => g.all)
  have HDS := Lib.hid (fun (n lo hi Bh Bc Ba c : Nat) (hn1 : 1 ≤ n) (hc : c < 576) (w : World) a0 a1 a2 a3 a4 a5 lh lc la hn0 => drifts_stops n hn1 Bh Bc Ba lo hi wd hw c hc h ⟨ge0, ge1, ge2⟩ ⟨gn0, gn1, gn2⟩ w a0 a1 a2 a3 a4 a5 lh lc la hn0)
  obtain ⟨sa, scap, rfl, -, hSC⟩ := hI
  have HSC := Lib.hid hSC
  clear hSC har
  have HXL := Lib.hid (show (leftB wd hg h bs) = leftB wd hg h bs from rfl)
  generalize hD : DrL wd hg h bs = D at *
  generalize hSel : SeL wd hg h bs = Sl at *
  generalize leftB wd hg h bs = LFB at *
  generalize nextB wd hg h bs = NXB at *
  clear hD hSel HXL
  have HB := Lib.hid hB
  have HA := Lib.hid hA
  have k1 := hA.c2
  generalize h.se.length = sl at *
  generalize hlen : bs.length = len at *
  have HLN := Lib.hid hlen
  clear hlen hA hB
  obtain ⟨A, hA⟩ : ∃ A, A = (w.alloc (.cells #[.pointer (some ⟨S, 0, none⟩)] 113)).alloc (.cells #[.int .i64 h.eLo, .int .i64 h.eHi, .int .i64 h.nLo, .int .i64 h.nHi, .slice sa sl scap] 81) := ⟨_, rfl⟩
  have hzA : A.heap.size = w.heap.size + 2 := by rw [hA]; simp
  have hBA : Below w.heap.size w A := by rw [hA]; exact ((Below.refl _ _).alloc (Nat.le_refl _) _).alloc (by simp) _
  have k0 : A.cell? ⟨w.heap.size, 0, none⟩ = some (.pointer (some ⟨S, 0, none⟩)) := by rw [hA]; simp [go_sem]
  have q0 : A.cell? ⟨w.heap.size + 1, 0, none⟩ = some (.int .i64 h.eLo) := by rw [hA]; simp [go_sem]
  have q1 : A.cell? ⟨w.heap.size + 1, 1, none⟩ = some (.int .i64 h.eHi) := by rw [hA]; simp [go_sem]
  have q2 : A.cell? ⟨w.heap.size + 1, 2, none⟩ = some (.int .i64 h.nLo) := by rw [hA]; simp [go_sem]
  have q3 : A.cell? ⟨w.heap.size + 1, 3, none⟩ = some (.int .i64 h.nHi) := by rw [hA]; simp [go_sem]
  have q4 : A.cell? ⟨w.heap.size + 1, 4, none⟩ = some (.slice sa sl scap) := by rw [hA]; simp [go_sem]
  have k2 : A.cell? ⟨S, 1 + 1, none⟩ = some (.slice (some ⟨B, 0, none⟩) len len) := (hBA.cell (p := ⟨S, 2, none⟩) hSl).trans k1
  clear k1
  obtain ⟨w2, hM, hS, hb⟩ := make_bools A len (by omega)
  rw [hzA] at hS hb
  have hb2 : Below (w.heap.size + 2) A w2 := hb
  have hz2 : w.heap.size + 2 < w2.heap.size := hS.lt
  have HS := Lib.hid hS
  obtain ⟨W3, hW3⟩ : ∃ W3, W3 = w2.alloc (.cells #[.slice (some ⟨w.heap.size + 1 + 1, 0, none⟩) len len] 117) := ⟨_, rfl⟩
  have hb3 : Below (w.heap.size + 2) A W3 := by rw [hW3]; exact hb2.alloc (by omega) _
  have hw3 : Below w.heap.size w W3 := hBA.trans (hb3.mono (by omega))
  have hP3 : PaAt W3 w.heap.size (w.heap.size + 1) (w.heap.size + 1 + 1) w2.heap.size S B wd hg len h (.slice sa sl scap) bs (List.replicate len false) lf0 :=
    ⟨(hb3.cell (p := ⟨w.heap.size, 0, none⟩) (Nat.lt_add_of_pos_right (by decide))).trans k0, (hb3.cell (p := ⟨w.heap.size + 1, 0, none⟩) (Nat.lt_succ_self _)).trans q0, (hb3.cell (p := ⟨w.heap.size + 1, 1, none⟩) (Nat.lt_succ_self _)).trans q1, (hb3.cell (p := ⟨w.heap.size + 1, 2, none⟩) (Nat.lt_succ_self _)).trans q2, (hb3.cell (p := ⟨w.heap.size + 1, 3, none⟩) (Nat.lt_succ_self _)).trans q3, (hb3.cell (p := ⟨w.heap.size + 1, 4, none⟩) (Nat.lt_succ_self _)).trans q4,
      by rw [hW3]; simp [go_sem], HA.out.keep hw3, HB.out.keep hw3, by rw [hW3]; exact HS.out.keep ((Below.refl _ _).alloc (Nat.le_refl _) _)⟩
  have p0 := hP3.p
  have p2 := hP3.s.c2
  have HP3 := Lib.hid hP3
  have HW3 := Lib.hid hw3
  have hz3 : w2.heap.size < W3.heap.size := by rw [hW3]; simp
  rw [hW3] at p0 p2
  clear hb hS hb2 hb3 hw3 hP3
  rw [hA] at hM k0 k2
  refine calls_marks 9 Try.func84 rfl ?_
  simp only [Try.ntmps84, List.size_toArray, List.length_cons, List.length_nil, Nat.reduceAdd, Nat.reduceSub, Array.replicate_succ, Array.replicate_zero, List.push_toArray, List.append_toArray, List.nil_append, List.cons_append]
  gi_wp2
  have hord : B ≠ S ∧ B < w.heap.size ∧ S < w.heap.size ∧ w.heap.size < w.heap.size + 1 ∧ w.heap.size + 1 < w.heap.size + 1 + 1 ∧ w.heap.size + 1 + 1 < w2.heap.size := ⟨hBS, HB.out.lt, hSl, by omega, by omega, by omega⟩
  rw [← hW3]
  clear p0 p2 hM k0 q0 q1 q2 q3 q4 k2 hA hW3 HB HA HS hSl
  have HW0 := Lib.hid (show w.heap.size ≤ w.heap.size + 1 + 1 from by omega)
  have hz4 : w2.heap.size < W3.heap.size := hz3
  generalize hT : w.heap.size + 1 + 1 = T at *
  generalize hH : w.heap.size + 1 = H at *
  generalize hX : w2.heap.size = X at *
  generalize hP : w.heap.size = P at *
  have HWP := Lib.hid hP
  clear hz2 hz3 hzA hBA hT hH hX hP
  obtain ⟨INV, hINV⟩ : ∃ INV : Act → World → Prop, INV = fun a' wr => ∃ (k : Nat) (l : List Bool) (lf : Bool) (ds : List Deferred) (u5 u6 u23 u24 u25 u26 u27 u28 u29 u30 u31 u32 u33 u34 u35 u70 : Value), k ≤ len ∧ a' = { tmps := #[.pointer (some ⟨S, 0, none⟩), .agg #[.int .i64 h.eLo, .int .i64 h.eHi, .int .i64 h.nLo, .int .i64 h.nHi, .slice sa sl scap], .pointer (some ⟨P, 0, none⟩), .pointer (some ⟨H, 0, none⟩), .pointer (some ⟨X, 0, none⟩), u5, u6, undef, undef, undef, undef, .pointer (some ⟨S, 0, none⟩), .pointer (some ⟨S, 0, none⟩), .pointer (some ⟨S, 2, none⟩), .slice (some ⟨B, 0, none⟩) len len, .int .i64 (len : Int), .slice (some ⟨T, 0, none⟩) len len, .pointer (some ⟨S, 0, none⟩), .pointer (some ⟨S, 0, none⟩), .pointer (some ⟨S, 2, none⟩), .slice (some ⟨B, 0, none⟩) len len, .int .i64 (len : Int), .int .i64 (k : Int), u23, u24, u25, u26, u27, u28, u29, u30, u31, u32, u33, u34, u35, undef, undef, undef, undef, undef, undef, undef, undef, undef, undef, undef, undef, undef, undef, undef, undef, undef, undef, undef, undef, undef, undef, undef, undef, undef, undef, undef, undef, undef, undef, undef, undef, undef, undef, u70, undef, undef, undef, undef, undef, undef, undef, undef, undef, undef, undef, undef, undef, undef, undef], defers := ds } ∧ PaAt wr P H T X S B wd hg len h (.slice sa sl scap) bs l (lf0 || lf) ∧ D k h.eLo h.nLo l lf ∧ Marks W3.heap.size wr ds ∧ Below n₀ w wr ∧ W3.heap.size ≤ wr.heap.size := ⟨_, rfl⟩
  obtain ⟨MU, hMU⟩ : ∃ MU : Act → World → Nat, MU = fun a' _ => len - (intOf (a'.tmps.getD 22 undef)).toNat := ⟨_, rfl⟩
  have HINV := Lib.hid hINV
  have HMU := Lib.hid hMU
  clear hINV hMU
  refine wpIn_loop INV MU ?_ ?_
  · rw [HINV.out]; exact ⟨0, List.replicate len false, false, [], undef, undef, undef, undef, undef, undef, undef, undef, undef, undef, undef, undef, undef, undef, undef, undef, Nat.zero_le _, by rfl, by rw [Bool.or_false]; exact HP3.out, HST.out, trivial, HW3.out.mono (by omega), Nat.le_refl _⟩
  · intro a0 wr hinv
    rw [HINV.out] at hinv
    obtain ⟨k, l, lf, ds, u5, u6, u23, u24, u25, u26, u27, u28, u29, u30, u31, u32, u33, u34, u35, u70, hk, rfl, hP, hD, hMk, hBl, hsz⟩ := hinv
    have HPk := Lib.hid hP
    have HDk := Lib.hid hD
    have HMk := Lib.hid hMk
    have HBk := Lib.hid hBl
    by_cases hlt : k < len
    · have m0 := hP.b.cell (k := k) (by rw [HLN.out]; exact hlt)
      have hki : (k : Int) < (len : Int) := by omega
      clear hP hD hMk hBl
      generalize hbv : bAt bs k = b at m0
      have HBV := Lib.hid hbv
      clear hbv
      cases b
      · gi_wp2
        refine ⟨?_, ?_⟩
        · rw [HINV.out]
          exact ⟨k + 1, _, _, _, _, _, _, _, _, _, _, _, _, _, _, _, _, _, _, _, by omega, rfl, HPk.out, HNO.out _ _ _ _ _ HDk.out HBV.out, HMk.out, HBk.out, hsz⟩
        · rw [HMU.out]
          simp [intOf]; omega
      · have p0 := HPk.out.p
        have p1 := HPk.out.s.c0
        have p2 := HPk.out.s.c1
        have p3 := HPk.out.h0
        have p4 := HPk.out.h1
        have p5 := HPk.out.h2
        have p6 := HPk.out.h3
        have p7 := HPk.out.h4
        have hSz := HPk.out.s.lt
        gi_wp2
        refine wpIn_wide.2 ?_
        refine wp_region_held_drew (S := fun w' => w'.cell? ⟨P, 0, none⟩ = some (.pointer (some ⟨S, 0, none⟩)) ∧ w'.cell? ⟨S, 0, none⟩ = some (.int .i64 wd) ∧ w'.cell? ⟨S, 1, none⟩ = some (.int .i64 hg) ∧ w'.cell? ⟨H, 0, none⟩ = some (.int .i64 h.eLo) ∧ w'.cell? ⟨H, 1, none⟩ = some (.int .i64 h.eHi) ∧ w'.cell? ⟨H, 2, none⟩ = some (.int .i64 h.nLo) ∧ w'.cell? ⟨H, 3, none⟩ = some (.int .i64 h.nHi) ∧ w'.cell? ⟨H, 4, none⟩ = some (.slice sa sl scap)) (by kernel_rfl) ⟨by simpa [go_sem] using p0, by simpa [go_sem] using p1, by simpa [go_sem] using p2, by simpa [go_sem] using p3, by simpa [go_sem] using p4, by simpa [go_sem] using p5, by simpa [go_sem] using p6, by simpa [go_sem] using p7⟩ (fun hHeld => ?_)
        refine wpAnyH_take (i := 0) (oi := _) (v := Value.pointer (some ⟨S, 0, none⟩)) rfl (by kernel_rfl) (by kernel_rfl) (by kernel_rfl) (fun _ _ _ h => h) (Or.inl ⟨by rfl, fun w' hSw => ?_⟩) hHeld ?_
        · obtain ⟨t0, t1, t2, t3, t4, t5, t6, t7⟩ := hSw
          go_simp
          try simp [*]
          try (intro hh; exfalso; omega)
          try omega
        try simp only [Act.put, List.setIfInBounds_toArray, List.set_cons_zero, List.set_cons_succ, List.getElem_toArray, List.getElem_cons_succ, List.getElem_cons_zero]
        refine wpAnyH_take (i := 1) (oi := _) (v := Value.pointer (some ⟨S, 0, none⟩)) rfl (by kernel_rfl) (by kernel_rfl) (by kernel_rfl) (fun _ _ _ h => h) (Or.inl ⟨by rfl, fun w' hSw => ?_⟩) hHeld ?_
        · obtain ⟨t0, t1, t2, t3, t4, t5, t6, t7⟩ := hSw
          go_simp
          try simp [*]
          try (intro hh; exfalso; omega)
          try omega
        try simp only [Act.put, List.setIfInBounds_toArray, List.set_cons_zero, List.set_cons_succ, List.getElem_toArray, List.getElem_cons_succ, List.getElem_cons_zero]
        refine wpAnyH_take (i := 2) (oi := _) (v := Value.pointer (some ⟨S, 0, none⟩)) rfl (by kernel_rfl) (by kernel_rfl) (by kernel_rfl) (fun _ _ _ h => h) (Or.inl ⟨by rfl, fun w' hSw => ?_⟩) hHeld ?_
        · obtain ⟨t0, t1, t2, t3, t4, t5, t6, t7⟩ := hSw
          go_simp
          try simp [*]
          try (intro hh; exfalso; omega)
          try omega
        try simp only [Act.put, List.setIfInBounds_toArray, List.set_cons_zero, List.set_cons_succ, List.getElem_toArray, List.getElem_cons_succ, List.getElem_cons_zero]
        refine wpAnyH_take (i := 3) (oi := _) (v := Value.agg #[Value.int .i64 wd, Value.int .i64 hg]) rfl (by kernel_rfl) (by kernel_rfl) (by kernel_rfl) (fun _ _ _ h => h) (Or.inl ⟨by rfl, fun w' hSw => ?_⟩) hHeld ?_
        · obtain ⟨t0, t1, t2, t3, t4, t5, t6, t7⟩ := hSw
          go_simp
          try simp [*]
          try (intro hh; exfalso; omega)
          try omega
        try simp only [Act.put, List.setIfInBounds_toArray, List.set_cons_zero, List.set_cons_succ, List.getElem_toArray, List.getElem_cons_succ, List.getElem_cons_zero]
        refine wpAnyH_take (i := 4) (oi := _) (v := Value.int .i64 (k : Int)) rfl (by kernel_rfl) (by kernel_rfl) (by kernel_rfl) (fun _ _ _ h => h) (Or.inl ⟨by rfl, fun w' hSw => ?_⟩) hHeld ?_
        · obtain ⟨t0, t1, t2, t3, t4, t5, t6, t7⟩ := hSw
          go_simp
          try simp [*]
          try (intro hh; exfalso; omega)
          try omega
        try simp only [Act.put, List.setIfInBounds_toArray, List.set_cons_zero, List.set_cons_succ, List.getElem_toArray, List.getElem_cons_succ, List.getElem_cons_zero]
        refine wpAnyH_take (i := 5) (oi := _) (v := Value.agg #[Value.int .i64 h.eLo, Value.int .i64 h.eHi, Value.int .i64 h.nLo, Value.int .i64 h.nHi, Value.slice sa sl scap]) rfl (by kernel_rfl) (by kernel_rfl) (by kernel_rfl) (fun _ _ _ h => h) (Or.inl ⟨by rfl, fun w' hSw => ?_⟩) hHeld ?_
        · obtain ⟨t0, t1, t2, t3, t4, t5, t6, t7⟩ := hSw
          go_simp
          try simp [*]
          try (intro hh; exfalso; omega)
          try omega
        try simp only [Act.put, List.setIfInBounds_toArray, List.set_cons_zero, List.set_cons_succ, List.getElem_toArray, List.getElem_cons_succ, List.getElem_cons_zero]
        obtain ⟨W4, hW4⟩ : ∃ W4, W4 = ((wr.drew.alloc (.cells #[.int .i64 wd, .int .i64 hg] 54)).alloc (.cells #[.int .i64 (k : Int)] 3)).alloc (.cells #[.int .i64 h.eLo, .int .i64 h.eHi, .int .i64 h.nLo, .int .i64 h.nHi, .slice sa sl scap] 81) := ⟨_, rfl⟩
        have hb4 : Below wr.heap.size wr W4 := by rw [hW4]; exact (((Below.refl wr.heap.size wr).drew.alloc (Nat.le_refl _) _).alloc (by simp) _).alloc (by simp; omega) _
        have hz4' : W4.heap.size = wr.heap.size + 3 := by rw [hW4]; simp
        refine wpAnyH_ready (rs := [6]) (by kernel_rfl) (by simp) ?_
        refine AllReadyH.cons (o := _) rfl (fun K hK => ?_) AllReadyH.nil
        go_simp
        go_at_call 105
        refine Calls.mono (drifts_any _ _ _ _ _ _ _ _ _) ?_
        rintro e v1 ⟨rfl, rfl⟩
        rw [← hW4]
        clear hHeld
        refine hK.out _ _ ⟨hb4.cell (p := ⟨P, 0, none⟩) (by first | exact HPk.out.s.lt | exact block_of HPk.out.p) |>.trans p0, hb4.cell (p := ⟨S, 0, none⟩) (by first | exact HPk.out.s.lt | exact block_of HPk.out.s.c0) |>.trans p1, hb4.cell (p := ⟨S, 1, none⟩) (by first | exact HPk.out.s.lt | exact block_of HPk.out.s.c0) |>.trans p2, hb4.cell (p := ⟨H, 0, none⟩) (by first | exact HPk.out.s.lt | exact block_of HPk.out.h0) |>.trans p3, hb4.cell (p := ⟨H, 1, none⟩) (by first | exact HPk.out.s.lt | exact block_of HPk.out.h0) |>.trans p4, hb4.cell (p := ⟨H, 2, none⟩) (by first | exact HPk.out.s.lt | exact block_of HPk.out.h0) |>.trans p5, hb4.cell (p := ⟨H, 3, none⟩) (by first | exact HPk.out.s.lt | exact block_of HPk.out.h0) |>.trans p6, hb4.cell (p := ⟨H, 4, none⟩) (by first | exact HPk.out.s.lt | exact block_of HPk.out.h0) |>.trans p7⟩ (fun hHeld => ?_)
        clear hK K
        try simp only [Act.put, List.setIfInBounds_toArray, List.set_cons_zero, List.set_cons_succ, List.getElem_toArray, List.getElem_cons_succ, List.getElem_cons_zero]
        refine wpAnyH_done (by kernel_rfl) ?_ _
        clear hHeld
        clear p0 p1 p2 p3 p4 p5 p6 p7 m0
        gi_wp2
        have q0 : W4.cell? ⟨wr.heap.size + 2, 0, none⟩ = some (.int .i64 h.eLo) := by rw [hW4]; simp [go_sem]
        have q1 : W4.cell? ⟨wr.heap.size + 2, 1, none⟩ = some (.int .i64 h.eHi) := by rw [hW4]; simp [go_sem]
        have q2 : W4.cell? ⟨wr.heap.size + 2, 2, none⟩ = some (.int .i64 h.nLo) := by rw [hW4]; simp [go_sem]
        have q3 : W4.cell? ⟨wr.heap.size + 2, 3, none⟩ = some (.int .i64 h.nHi) := by rw [hW4]; simp [go_sem]
        have q4 : W4.cell? ⟨wr.heap.size + 1, 0, none⟩ = some (.int .i64 k) := by rw [hW4]; simp [go_sem]
        have q5 : W4.cell? ⟨wr.heap.size, 0, none⟩ = some (.int .i64 wd) := by rw [hW4]; simp [go_sem]
        have hseq := HDS.out (9 - 1) wr.heap.size (wr.heap.size + 3) (wr.heap.size + 2) (wr.heap.size + 1) wr.heap.size k (by omega) (by omega) W4 q0 q1 q2 q3 q4 q5 (by omega) (by omega) (by omega) (by omega)
        clear q0 q1 q2 q3 q4 q5 hW4
        have hPI : PI n₀ P H T X S B wd hg len h (.slice sa sl scap) bs l lf0 lf w wr [] W4 := ⟨⟨l, lf, HPk.out.kept (CellsKept.of_below hb4) hb4.size, PcL.start _ _ _ _⟩, fun D hD => (hb4.block D (Array.getElem?_eq_some_iff.1 hD).1).trans hD, HBk.out.trans (hb4.mono (by omega)), hb4.size⟩
        clear hb4
        refine wpIn_rangeFunc_ownG rfl (by omega) (gf := 114) (lb := #[.pointer (some ⟨wr.heap.size + 2, 0, none⟩), .pointer (some ⟨wr.heap.size + 1, 0, none⟩), .pointer (some ⟨wr.heap.size, 0, none⟩)]) rfl trivial (enters_of Try.func114 (by kernel_rfl) rfl) hseq (fun h1 h2 => h1.trans h2) (fun _ l' _ _ hl _ _ _ k' h1 h2 => World.putObj_heap_other (by omega)) (Below.refl _ _) (fun _ => rfl) (PI n₀ P H T X S B wd hg len h (.slice sa sl scap) bs l lf0 lf w wr) (fun _ _ _ => False) (pi_own (by omega) (by omega)) (fun _ _ _ _ _ hs _ _ => hs) hPI (fun x => { tmps := #[.pointer (some ⟨S, 0, none⟩), .agg #[.int .i64 h.eLo, .int .i64 h.eHi, .int .i64 h.nLo, .int .i64 h.nHi, .slice sa sl scap], .pointer (some ⟨P, 0, none⟩), .pointer (some ⟨H, 0, none⟩), .pointer (some ⟨X, 0, none⟩), .int .i64 (k : Int), .bool true, .int .i64 x.1.1, .int .i64 x.1.2, undef, undef, .pointer (some ⟨S, 0, none⟩), .pointer (some ⟨S, 0, none⟩), .pointer (some ⟨S, 2, none⟩), .slice (some ⟨B, 0, none⟩) len len, .int .i64 (len : Int), .slice (some ⟨T, 0, none⟩) len len, .pointer (some ⟨S, 0, none⟩), .pointer (some ⟨S, 0, none⟩), .pointer (some ⟨S, 2, none⟩), .slice (some ⟨B, 0, none⟩) len len, .int .i64 (len : Int), .int .i64 (k : Int), .bool true, .int .i64 (k : Int), .pointer (some ⟨B, k, none⟩), .bool true, .bool true, .bool false, .pointer (some ⟨S, 0, none⟩), .pointer (some ⟨S, 0, none⟩), .pointer (some ⟨S, 0, none⟩), .agg #[.int .i64 wd, .int .i64 hg], .int .i64 (k : Int), .agg #[.int .i64 h.eLo, .int .i64 h.eHi, .int .i64 h.nLo, .int .i64 h.nHi, .slice sa sl scap], .func (.func 114) #[] #[.pointer (some ⟨wr.heap.size + 2, 0, none⟩), .pointer (some ⟨wr.heap.size + 1, 0, none⟩), .pointer (some ⟨wr.heap.size, 0, none⟩)], .int .i64 x.1.1, .int .i64 x.1.2, undef, undef, undef, undef, undef, undef, undef, undef, undef, undef, undef, undef, undef, undef, undef, undef, undef, undef, undef, undef, undef, undef, undef, undef, undef, undef, undef, undef, undef, undef, undef, undef, u70, undef, undef, undef, undef, undef, undef, undef, undef, undef, undef, undef, undef, undef, undef, undef], defers := [] }) ?assign ?body ?done ?stop
        case assign =>
          intro l' x W K hK
          unfold crs
          gi_wp2
          exact hK
        case body =>
          rintro l' pre x W ⟨⟨l2, lf2, g, c⟩, hm, hb, hz⟩ -
          have HG := Lib.hid g
          have HM := Lib.hid hm
          have HBB := Lib.hid hb
          have HO := Lib.hid (fun ho => c.out x ho)
          have HI := Lib.hid (fun hi (m : Nat) hm hml => c.inn x hi (m := m) hm hml)
          have hl2 := c.1
          have hll := HLEN.out _ _ _ _ _ HDk.out
          obtain ⟨x1, x2, x3, x4⟩ := x.2
          generalize x.1.1 = xx at *
          generalize x.1.2 = yy at *
          have p0 := g.p
          have p1 := g.s.c0
          have p2 := g.s.c1
          have p3 := g.s.c3
          have p4 := g.s.f 3
          have v1 : wrap64 (wd - 1) = wd - 1 := by unfold wrap64; omega
          have v2 : wrap64 (hg - 1) = hg - 1 := by unfold wrap64; omega
          clear hm hb c hseq hPI
          by_cases ix : 0 ≤ xx ∧ xx ≤ wd - 1
          rotate_left
          · have ho : ¬ InA wd hg xx yy := fun q => ix ⟨q.1, by have := q.2.1; omega⟩
            have c80 : ∀ W, Calls Try.prog 80 #[.int .i64 xx, .int .i64 0, .int .i64 (wd - 1)] W fun e w' => e = .returned (.bool false) ∧ w' = W := fun W => by have q := withinI_any xx 0 (wd - 1) W; rwa [show (decide (0 ≤ xx) && decide (xx ≤ wd - 1)) = false from by rw [← Bool.decide_and]; exact decide_eq_false ix] at q
            clear g
            gi_wp2
            refine ⟨trivial, ?_⟩
            gi_at_call 80
            refine (CallsIn.inRound l' (callsIn_wide.2 (c80 _))).mono ?_
            rintro e w1 ⟨rfl, rfl⟩
            gi_wp2
            refine ⟨trivial, ?_⟩
            gi_wp2
            exact ⟨(KeepsOthers.setCell _ _ _).from _, fun k' h1 h2 => Below.heap_setCell _ _ _ _ (by show k' ≠ S; omega), ⟨l2, true, by rw [Bool.or_true]; exact HG.out.setL hord true, HO.out ho⟩, HM.out.setCell _ _ _ _ 0 HG.out.s.c0, HBB.out.setCell (p := ⟨S, 3, none⟩) hS0 _, by simpa using hz⟩
          have c80 : ∀ W, Calls Try.prog 80 #[.int .i64 xx, .int .i64 0, .int .i64 (wd - 1)] W fun e w' => e = .returned (.bool true) ∧ w' = W := fun W => by have q := withinI_any xx 0 (wd - 1) W; rwa [show (decide (0 ≤ xx) && decide (xx ≤ wd - 1)) = true from by rw [← Bool.decide_and]; exact decide_eq_true ix] at q
          by_cases iy : 0 ≤ yy ∧ yy ≤ hg - 1
          rotate_left
          · have ho : ¬ InA wd hg xx yy := fun q => iy ⟨q.2.2.1, by have := q.2.2.2; omega⟩
            have c80y : ∀ W, Calls Try.prog 80 #[.int .i64 yy, .int .i64 0, .int .i64 (hg - 1)] W fun e w' => e = .returned (.bool false) ∧ w' = W := fun W => by have q := withinI_any yy 0 (hg - 1) W; rwa [show (decide (0 ≤ yy) && decide (yy ≤ hg - 1)) = false from by rw [← Bool.decide_and]; exact decide_eq_false iy] at q
            clear g
            gi_wp2
            refine ⟨trivial, ?_⟩
            gi_at_call 80
            refine (CallsIn.inRound l' (callsIn_wide.2 (c80 _))).mono ?_
            rintro e w1 ⟨rfl, rfl⟩
            clear c80
            gi_wp2
            refine ⟨trivial, ?_⟩
            gi_at_call 80
            refine (CallsIn.inRound l' (callsIn_wide.2 (c80y _))).mono ?_
            rintro e w1 ⟨rfl, rfl⟩
            gi_wp2
            exact ⟨(KeepsOthers.setCell _ _ _).from _, fun k' h1 h2 => Below.heap_setCell _ _ _ _ (by show k' ≠ S; omega), ⟨l2, true, by rw [Bool.or_true]; exact HG.out.setL hord true, HO.out ho⟩, HM.out.setCell _ _ _ _ 0 HG.out.s.c0, HBB.out.setCell (p := ⟨S, 3, none⟩) hS0 _, by simpa using hz⟩
          have hin : InA wd hg xx yy := ⟨ix.1, by omega, iy.1, by omega⟩
          have c80y : ∀ W, Calls Try.prog 80 #[.int .i64 yy, .int .i64 0, .int .i64 (hg - 1)] W fun e w' => e = .returned (.bool true) ∧ w' = W := fun W => by have q := withinI_any yy 0 (hg - 1) W; rwa [show (decide (0 ≤ yy) && decide (yy ≤ hg - 1)) = true from by rw [← Bool.decide_and]; exact decide_eq_true iy] at q
          have hci := HCI.out xx yy hin
          obtain ⟨Pr, hPr⟩ : ∃ Pr, Pr = yy * wd := ⟨_, rfl⟩
          obtain ⟨m, hmm⟩ : ∃ m : Nat, yy * wd + xx = (m : Int) := ⟨(yy * wd + xx).toNat, by omega⟩
          have hml : m < len := by rw [hmm] at hci; omega
          have HN := Lib.hid (HI.out hin m hmm (by rw [hll]; exact hml))
          rw [← hPr] at hci hmm
          have w1 : IntKind.i64.wrap (yy * wd) = Pr := by rw [IntKind.wrap_i64, ← hPr]; omega
          have w2' : IntKind.i64.wrap (Pr + xx) = (m : Int) := by rw [IntKind.wrap_i64]; omega
          have hmi : (m : Int) < (len : Int) := by omega
          have p5 := g.t
          have q1 := g.m.cell (k := m) (by rw [hl2, hll]; exact hml)
          have q2 := g.m.frozen m
          generalize bAt l2 m = bm at q1
          have HGM := Lib.hid (g.setM hord m true)
          clear g hin hci hmm hPr
          gi_wp2
          refine ⟨trivial, ?_⟩
          gi_at_call 80
          refine (CallsIn.inRound l' (callsIn_wide.2 (c80 _))).mono ?_
          rintro e w1 ⟨rfl, rfl⟩
          clear c80
          gi_wp2
          refine ⟨trivial, ?_⟩
          gi_at_call 80
          refine (CallsIn.inRound l' (callsIn_wide.2 (c80y _))).mono ?_
          rintro e w1 ⟨rfl, rfl⟩
          clear c80y
          gi_wp2
          refine wpIn_round_held (S := fun w' => w'.cell? ⟨P, 0, none⟩ = some (.pointer (some ⟨S, 0, none⟩)) ∧ w'.cell? ⟨S, 0, none⟩ = some (.int .i64 wd) ∧ w'.cell? ⟨X, 0, none⟩ = some (.slice (some ⟨T, 0, none⟩) len len)) (by kernel_rfl) (by kernel_rfl) (by rintro ⟨_, _, q⟩; exact q) ⟨by simpa [go_sem] using p0, by simpa [go_sem] using p1, by simpa [go_sem] using p5⟩ (fun hHeld => ?_)
          refine wpAnyH_take (i := 0) (oi := _) (v := Value.slice (some ⟨T, 0, none⟩) len len) rfl (by kernel_rfl) (by kernel_rfl) (by kernel_rfl) (fun _ _ _ h => h) (Or.inl ⟨by rfl, fun w' hSw => ?_⟩) hHeld ?_
          · obtain ⟨t0, t1, t2⟩ := hSw
            go_simp
            try simp [*]
            try (intro hh; exfalso; omega)
            try omega
          try simp only [Act.put, List.setIfInBounds_toArray, List.set_cons_zero, List.set_cons_succ, List.getElem_toArray, List.getElem_cons_succ, List.getElem_cons_zero]
          refine wpAnyH_take (i := 1) (oi := _) (v := Value.int .i64 yy) rfl (by kernel_rfl) (by kernel_rfl) (by kernel_rfl) (fun _ _ _ h => h) (Or.inl ⟨by rfl, fun w' hSw => ?_⟩) hHeld ?_
          · obtain ⟨t0, t1, t2⟩ := hSw
            go_simp
            try simp [*]
            try (intro hh; exfalso; omega)
            try omega
          try simp only [Act.put, List.setIfInBounds_toArray, List.set_cons_zero, List.set_cons_succ, List.getElem_toArray, List.getElem_cons_succ, List.getElem_cons_zero]
          refine wpAnyH_take (i := 2) (oi := _) (v := Value.pointer (some ⟨S, 0, none⟩)) rfl (by kernel_rfl) (by kernel_rfl) (by kernel_rfl) (fun _ _ _ h => h) (Or.inl ⟨by rfl, fun w' hSw => ?_⟩) hHeld ?_
          · obtain ⟨t0, t1, t2⟩ := hSw
            go_simp
            try simp [*]
            try (intro hh; exfalso; omega)
            try omega
          try simp only [Act.put, List.setIfInBounds_toArray, List.set_cons_zero, List.set_cons_succ, List.getElem_toArray, List.getElem_cons_succ, List.getElem_cons_zero]
          refine wpAnyH_take (i := 3) (oi := _) (v := Value.pointer (some ⟨S, 0, none⟩)) rfl (by kernel_rfl) (by kernel_rfl) (by kernel_rfl) (fun _ _ _ h => h) (Or.inl ⟨by rfl, fun w' hSw => ?_⟩) hHeld ?_
          · obtain ⟨t0, t1, t2⟩ := hSw
            go_simp
            try simp [*]
            try (intro hh; exfalso; omega)
            try omega
          try simp only [Act.put, List.setIfInBounds_toArray, List.set_cons_zero, List.set_cons_succ, List.getElem_toArray, List.getElem_cons_succ, List.getElem_cons_zero]
          refine wpAnyH_take (i := 4) (oi := _) (v := Value.pointer (some ⟨S, 0, none⟩)) rfl (by kernel_rfl) (by kernel_rfl) (by kernel_rfl) (fun _ _ _ h => h) (Or.inl ⟨by rfl, fun w' hSw => ?_⟩) hHeld ?_
          · obtain ⟨t0, t1, t2⟩ := hSw
            go_simp
            try simp [*]
            try (intro hh; exfalso; omega)
            try omega
          try simp only [Act.put, List.setIfInBounds_toArray, List.set_cons_zero, List.set_cons_succ, List.getElem_toArray, List.getElem_cons_succ, List.getElem_cons_zero]
          refine wpAnyH_take (i := 5) (oi := _) (v := Value.pointer (some ⟨S, 0, none⟩)) rfl (by kernel_rfl) (by kernel_rfl) (by kernel_rfl) (fun _ _ _ h => h) (Or.inl ⟨by rfl, fun w' hSw => ?_⟩) hHeld ?_
          · obtain ⟨t0, t1, t2⟩ := hSw
            go_simp
            try simp [*]
            try (intro hh; exfalso; omega)
            try omega
          try simp only [Act.put, List.setIfInBounds_toArray, List.set_cons_zero, List.set_cons_succ, List.getElem_toArray, List.getElem_cons_succ, List.getElem_cons_zero]
          refine wpAnyH_take (i := 6) (oi := _) (v := Value.int .i64 wd) rfl (by kernel_rfl) (by kernel_rfl) (by kernel_rfl) (fun _ _ _ h => h) (Or.inl ⟨by rfl, fun w' hSw => ?_⟩) hHeld ?_
          · obtain ⟨t0, t1, t2⟩ := hSw
            go_simp
            try simp [*]
            try (intro hh; exfalso; omega)
            try omega
          try simp only [Act.put, List.setIfInBounds_toArray, List.set_cons_zero, List.set_cons_succ, List.getElem_toArray, List.getElem_cons_succ, List.getElem_cons_zero]
          refine wpAnyH_take (i := 7) (oi := _) (v := Value.int .i64 Pr) rfl (by kernel_rfl) (by kernel_rfl) (by kernel_rfl) (fun _ _ _ h => h) (Or.inl ⟨by rfl, fun w' hSw => ?_⟩) hHeld ?_
          · obtain ⟨t0, t1, t2⟩ := hSw
            go_simp
            try simp [*]
            try (intro hh; exfalso; omega)
            try omega
          try simp only [Act.put, List.setIfInBounds_toArray, List.set_cons_zero, List.set_cons_succ, List.getElem_toArray, List.getElem_cons_succ, List.getElem_cons_zero]
          refine wpAnyH_take (i := 8) (oi := _) (v := Value.int .i64 xx) rfl (by kernel_rfl) (by kernel_rfl) (by kernel_rfl) (fun _ _ _ h => h) (Or.inl ⟨by rfl, fun w' hSw => ?_⟩) hHeld ?_
          · obtain ⟨t0, t1, t2⟩ := hSw
            go_simp
            try simp [*]
            try (intro hh; exfalso; omega)
            try omega
          try simp only [Act.put, List.setIfInBounds_toArray, List.set_cons_zero, List.set_cons_succ, List.getElem_toArray, List.getElem_cons_succ, List.getElem_cons_zero]
          refine wpAnyH_take (i := 9) (oi := _) (v := Value.int .i64 (m : Int)) rfl (by kernel_rfl) (by kernel_rfl) (by kernel_rfl) (fun _ _ _ h => h) (Or.inl ⟨by rfl, fun w' hSw => ?_⟩) hHeld ?_
          · obtain ⟨t0, t1, t2⟩ := hSw
            go_simp
            try simp [*]
            try (intro hh; exfalso; omega)
            try omega
          try simp only [Act.put, List.setIfInBounds_toArray, List.set_cons_zero, List.set_cons_succ, List.getElem_toArray, List.getElem_cons_succ, List.getElem_cons_zero]
          refine wpAnyH_take (i := 10) (oi := _) (v := Value.pointer (some ⟨T, m, none⟩)) rfl (by kernel_rfl) (by kernel_rfl) (by kernel_rfl) (fun _ _ _ h => h) (Or.inl ⟨by rfl, fun w' hSw => ?_⟩) hHeld ?_
          · obtain ⟨t0, t1, t2⟩ := hSw
            go_simp
            try simp [*]
            try (intro hh; exfalso; omega)
            try omega
          try simp only [Act.put, List.setIfInBounds_toArray, List.set_cons_zero, List.set_cons_succ, List.getElem_toArray, List.getElem_cons_succ, List.getElem_cons_zero]
          clear hHeld
          refine wpAnyH_ready (rs := [11]) (by kernel_rfl) (by simp) ?_
          refine AllReadyH.cons (o := _) rfl (fun K hK => ?_) AllReadyH.nil
          go_simp
          refine hK.out _ _ ⟨far_cell (by omega) p0, far_cell (by omega) p1, far_cell (by omega) p5⟩ (fun _ => ?_)
          clear hK K
          try simp only [Act.put, List.setIfInBounds_toArray, List.set_cons_zero, List.set_cons_succ, List.getElem_toArray, List.getElem_cons_succ, List.getElem_cons_zero]
          refine wpAnyH_done (by kernel_rfl) ?_ _
          gi_wp2
          exact ⟨((KeepsOthers.setCell _ _ _).trans (KeepsOthers.drew _)).from _, fun k' h1 h2 => Below.heap_setCell _ _ _ _ (by show k' ≠ T; omega), ⟨_, lf2, HGM.out.kept (fun _ _ h _ => h) (Nat.le_refl _), HN.out⟩, HM.out.setCell _ _ _ _ m q1, (HBB.out.setCell (p := ⟨T, m, none⟩) (by show n₀ ≤ T; omega) _).drew, by simpa using hz⟩
        case done =>
          rintro D' ys W hD' hys ⟨⟨l2, lf2, g, c⟩, hm, hb, hz⟩ hK
          have HG := Lib.hid g
          have HC := Lib.hid (HALL.out k l l2 lf lf2 ys hlt HBV.out HDk.out hys c)
          have HMM : Hid (Marks W3.heap.size W ({ target := .collected D', args := #[] } :: ds)) := Lib.hid ⟨⟨D', by omega, rfl, hK, HMk.out.fresh (by omega)⟩, HMk.out.keep (fun d _ D _ hD => hm D hD)⟩
          have HBB := Lib.hid hb
          clear g c hm hb hys hK hseq hPI
          gi_wp2
          refine ⟨?_, ?_⟩
          · rw [HINV.out]
            exact ⟨k + 1, _, _, _, _, _, _, _, _, _, _, _, _, _, _, _, _, _, _, _, by omega, rfl, HG.out, HC.out, HMM.out, HBB.out, by omega⟩
          · rw [HMU.out]
            simp [intOf]; omega
        case stop =>
          rintro D' c pre W _ _ hf
          exact hf.elim
    · obtain rfl : k = len := by omega
      obtain ⟨hsl, rfl⟩ := HSE.out _ _ _ _ hD
      have HSL0 := Lib.hid hsl
      have p3 := hP.h4
      clear hP hD hMk hBl hsl HDk HNO HALL HDS HSE HST HCI HLEN
      gi_wp2
      clear p3
      gi_loopw [74] (fun i wr' => ∃ (j : Nat) (l : List Bool), j ≤ sl ∧ i = .int .i64 j ∧ PaAt wr' P H T X S B wd hg k h (.slice sa sl scap) bs l (lf0 || lf) ∧ Sl j l ∧ Marks W3.heap.size wr' ds ∧ Below n₀ w wr' ∧ W3.heap.size ≤ wr'.heap.size) (fun i _ => sl - (intOf i).toNat)
      case atStart => exact ⟨0, l, Nat.zero_le _, rfl, HPk.out, HSL0.out, HMk.out, HBk.out, hsz⟩
      case round =>
        clear HPk HMk HBk hsz HSL0
        obtain ⟨j, l, hj, rfl, hP, hD, hMk, hBl, hsz⟩ := hrel
        have HPk := Lib.hid hP
        have HMk := Lib.hid hMk
        have HBk := Lib.hid hBl
        by_cases hjl : j < sl
        · obtain ⟨b, off, rfl, hb, e0⟩ := HSC.out j hjl
          have m0 := (hBl.cell (p := ⟨b, off + j, none⟩) hb).trans e0
          have hji : (j : Int) < (sl : Int) := by omega
          have hnn := HNN.out j hjl
          have hst := HSS.out j (vAt h.se j).toNat l hD (by omega)
          have hll := HSL.out _ _ hD
          unfold vAt at hnn hst
          generalize h.se[j]?.getD 0 = x at *
          obtain ⟨xn, rfl⟩ : ∃ xn : Nat, x = (xn : Int) := ⟨x.toNat, by omega⟩
          rw [Int.toNat_natCast] at hst
          have hxn : xn < k := by omega
          have p5 := hP.t
          have q1 := hP.m.cell (k := xn) (by rw [hll]; exact hxn)
          have q2 := hP.m.frozen xn
          have hxi : (xn : Int) < (k : Int) := by omega
          have HN := Lib.hid (hP.setM hord xn false)
          have HO := Lib.hid hst
          generalize bAt l xn = bm at q1
          have HM1 := Lib.hid (hMk.keep (W' := wr.setCell ⟨T, xn, none⟩ (.bool false)) (fun d _ D _ hD => (KeepMarks.setCell (W := wr) (fun _ q => q) T xn _ _ xn q1) D hD))
          clear e0 hP hst hD hMk hBl hnn hll
          gi_wp2
          go_roundw
          case rel => exact ⟨j + 1, _, by omega, by go_num, HN.out, HO.out, HM1.out, HBk.out.setCell (p := ⟨T, xn, none⟩) (by show n₀ ≤ T; omega) _, by simpa using hsz⟩
          case measure => simp [intOf]; omega
        · obtain rfl : j = sl := by omega
          obtain rfl := HSA.out _ hD
          have p0 := hP.p
          have p2 := hP.s.c2
          have p4 := hP.s.f 2
          have p5 := hP.t
          have HM1 := Lib.hid (hMk.keep (W' := wr.setCell ⟨S, 2, none⟩ (.slice (some ⟨T, 0, none⟩) k k)) (fun d _ D _ hD => (KeepMarks.setCell (W := wr) (fun _ q => q) S 2 _ _ 2 p2) D hD))
          clear hP hD hMk hBl
          gi_wp2
          refine leaves_marks W3.heap.size ds _ (by simpa using hsz) HM1.out (fun W' hb hk => ⟨_, results_none rfl _ _ _, ⟨_, rfl⟩, T, (HPk.out.s.setMay T).kept hk hb.size, (HPk.out.m.far (by omega)).kept hk, by rw [HWP.out]; exact HW0.out, ?_, ?_⟩)
          · have q1 := hb.size
            have q3 := HWP.out
            have q2 : (wr.setCell ⟨S, 2, none⟩ (.slice (some ⟨T, 0, none⟩) k k)).heap.size = wr.heap.size := by simp
            omega
          · exact (HBk.out.setCell (p := ⟨S, 2, none⟩) hS0 _).trans (hb.mono (by omega))
end Go.Proofs.Ythogahdnidjelaa
namespace Go.Proofs.Ythogahdnidjelaa
open Go.RowKit Go.Shelf
set_option linter.unusedSimpArgs false
def whN (wd hg : Int) : Nat := (wd * hg).toNat
theorem whN_eq {wd hg : Int} (hw : 1 ≤ wd ∧ wd ≤ 24) (hh : 1 ≤ hg ∧ hg ≤ 24) : wd * hg = (whN wd hg : Int) := by
  have b := Int.mul_le_mul hw.1 hh.1 (by omega) (by omega)
  unfold whN
  omega
theorem whN_le {wd hg : Int} (hw : 1 ≤ wd ∧ wd ≤ 24) (hh : 1 ≤ hg ∧ hg ≤ 24) : 1 ≤ whN wd hg ∧ whN wd hg ≤ 576 := by
  have a := Int.mul_le_mul hw.2 hh.2 (by omega) (by omega)
  have b := Int.mul_le_mul hw.1 hh.1 (by omega) (by omega)
  unfold whN
  omega
theorem stL_mono {wd hg : Int} {b0 : List Bool} {hs : List Hr} {j : Nat} (h : stL wd hg b0 hs j = true) : ∀ {k}, j ≤ k → stL wd hg b0 hs k = true
  | 0, hk => by
    obtain rfl : j = 0 := by omega
    exact h
  | k + 1, hk => by
    by_cases e : j = k + 1
    · subst e; exact h
    · show (stL wd hg b0 hs k || _) = true
      rw [stL_mono h (k := k) (by omega), Bool.true_or]
/-- after k hours no cell is left, and none was left by the area -/
def Gone (wd hg : Int) (b0 : List Bool) (hs : List Hr) (k : Nat) : Prop := anyB (stB wd hg b0 hs k) = false ∧ stL wd hg b0 hs k = false
def FoS (wd hg : Int) (b0 : List Bool) (hs : List Hr) (n e : Int) : Prop :=
  (∃ k : Nat, k ≤ hs.length ∧ Gone wd hg b0 hs k ∧ (∀ j, j < k → ¬ Gone wd hg b0 hs j) ∧ n = (k : Int) ∧ e = 0) ∨ ((∀ k, k ≤ hs.length → ¬ Gone wd hg b0 hs k) ∧ n = 0 ∧ e = 5)
theorem FoS.one {wd hg : Int} {b0 : List Bool} {hs : List Hr} {n e n' e' : Int} (h : FoS wd hg b0 hs n e) (h' : FoS wd hg b0 hs n' e') : n = n' ∧ e = e' := by
  rcases h with ⟨k, a, b, c, d, f⟩ | ⟨a, b, c⟩
  · rcases h' with ⟨k', a', b', c', d', f'⟩ | ⟨a', b', c'⟩
    · have : k = k' := by
        rcases Nat.lt_trichotomy k k' with q | q | q
        · exact absurd b (c' k q)
        · exact q
        · exact absurd b' (c k' q)
      subst this
      exact ⟨d.trans d'.symm, f.trans f'.symm⟩
    · exact absurd b (a' k a)
  · rcases h' with ⟨k', a', b', c', d', f'⟩ | ⟨a', b', c'⟩
    · exact absurd b' (a k' a')
    · exact ⟨b.trans b'.symm, c.trans c'.symm⟩
theorem FoS.found {wd hg : Int} {b0 : List Bool} {hs : List Hr} {k : Nat} (hk : k ≤ hs.length) (hin : ∀ j, j < k → anyB (stB wd hg b0 hs j) = true) (h1 : anyB (stB wd hg b0 hs k) = false) (h2 : stL wd hg b0 hs k = false) : FoS wd hg b0 hs (k : Int) 0 :=
  .inl ⟨k, hk, ⟨h1, h2⟩, fun j hj g => by have q := g.1; rw [hin j hj] at q; exact absurd q (by decide), rfl, rfl⟩
theorem FoS.never {wd hg : Int} {b0 : List Bool} {hs : List Hr} {k : Nat} (hin : ∀ j, j < k → anyB (stB wd hg b0 hs j) = true) (hend : hs.length ≤ k ∨ anyB (stB wd hg b0 hs k) = false) (hb : stL wd hg b0 hs k = true ∨ anyB (stB wd hg b0 hs k) = true) : FoS wd hg b0 hs 0 5 := by
  refine .inr ⟨fun m hm g => ?_, rfl, rfl⟩
  rcases Nat.lt_or_ge m k with q | q
  · have := g.1
    rw [hin m q] at this
    exact absurd this (by decide)
  · rcases hb with hb | hb
    · have := g.2
      rw [stL_mono hb q] at this
      exact absurd this (by decide)
    · rcases hend with hend | hend
      · obtain rfl : m = k := by omega
        have := g.1
        rw [hb] at this
        exact absurd this (by decide)
      · rw [hb] at hend
        exact absurd hend (by decide)
theorem FoS.over {wd hg : Int} {b0 : List Bool} {hs : List Hr} {k : Nat} (hin : ∀ j, j < k → anyB (stB wd hg b0 hs j) = true) (hk : hs.length < k) : FoS wd hg b0 hs 0 5 :=
  FoS.never (k := hs.length) (fun j hj => hin j (by omega)) (.inl (Nat.le_refl _)) (.inr (hin _ hk))
theorem mem_trL (bs : List Bool) (x : Int) : ∀ k, x ∈ trL bs k ↔ ∃ i : Nat, i < k ∧ bAt bs i = true ∧ x = (i : Int)
  | 0 => ⟨fun h => by simp [trL] at h, fun ⟨i, h, _⟩ => by omega⟩
  | k + 1 => by
    have ih := mem_trL bs x k
    unfold trL
    by_cases e : bAt bs k = true
    · rw [if_pos e, List.mem_append, ih]
      constructor
      · rintro (⟨i, a, b, c⟩ | h)
        · exact ⟨i, by omega, b, c⟩
        · exact ⟨k, by omega, e, by simpa using h⟩
      · rintro ⟨i, a, b, c⟩
        by_cases q : i = k
        · subst q; exact .inr (by simp [c])
        · exact .inl ⟨i, by omega, b, c⟩
    · rw [if_neg e, ih]
      constructor
      · rintro ⟨i, a, b, c⟩; exact ⟨i, by omega, b, c⟩
      · rintro ⟨i, a, b, c⟩
        by_cases q : i = k
        · subst q; exact absurd b e
        · exact ⟨i, by omega, b, c⟩
theorem trL_sorted (bs : List Bool) : ∀ k, (trL bs k).Pairwise (· < ·)
  | 0 => by simp [trL]
  | k + 1 => by
    have ih := trL_sorted bs k
    unfold trL
    by_cases e : bAt bs k = true
    · rw [if_pos e, List.pairwise_append]
      refine ⟨ih, by simp, fun a ha b hb => ?_⟩
      obtain ⟨i, h1, _, rfl⟩ := (mem_trL bs a k).1 ha
      obtain rfl : b = (k : Int) := by simpa using hb
      omega
    · rw [if_neg e]; exact ih
theorem any_iff (bs : List Bool) : anyB bs = true ↔ ∃ k, k < bs.length ∧ bAt bs k = true := by
  constructor
  · intro h
    refine Classical.byContradiction fun hn => ?_
    rw [any_none (bs := bs) (fun k hk => by
      cases e : bAt bs k
      · rfl
      · exact absurd ⟨k, hk, e⟩ hn)] at h
    exact absurd h (by decide)
  · rintro ⟨k, hk, h⟩; exact any_some hk h
theorem trL_empty (bs : List Bool) : anyB bs = decide (0 < (trL bs bs.length).length) := by
  cases e : anyB bs
  · symm
    refine decide_eq_false fun hl => ?_
    obtain ⟨i, h1, h2, _⟩ := (mem_trL bs _ _).1 (List.getElem_mem hl)
    rw [any_some h1 h2] at e
    exact absurd e (by decide)
  · symm
    refine decide_eq_true ?_
    obtain ⟨k, hk, h⟩ := (any_iff bs).1 e
    exact List.length_pos_of_mem ((mem_trL bs (k : Int) _).2 ⟨k, hk, h, rfl⟩)
theorem hr_take {hs : List Hr} {m k : Nat} (h : k < m) : hr (hs.take m) k = hr hs k := by
  unfold hr
  rw [List.getElem?_take, if_pos h]
theorem stB_take {wd hg : Int} {b0 : List Bool} {hs : List Hr} {m : Nat} : ∀ {k}, k ≤ m → stB wd hg b0 (hs.take m) k = stB wd hg b0 hs k
  | 0, _ => rfl
  | k + 1, hk => by
    show nextB wd hg (hr (hs.take m) k) (stB wd hg b0 (hs.take m) k) = nextB wd hg (hr hs k) (stB wd hg b0 hs k)
    rw [hr_take (by omega), stB_take (by omega)]
theorem stL_take {wd hg : Int} {b0 : List Bool} {hs : List Hr} {m : Nat} : ∀ {k}, k ≤ m → stL wd hg b0 (hs.take m) k = stL wd hg b0 hs k
  | 0, _ => rfl
  | k + 1, hk => by
    show (stL wd hg b0 (hs.take m) k || leftB wd hg (hr (hs.take m) k) (stB wd hg b0 (hs.take m) k)) = (stL wd hg b0 hs k || leftB wd hg (hr hs k) (stB wd hg b0 hs k))
    rw [hr_take (by omega), stB_take (by omega), stL_take (by omega)]
theorem btw_of {lo x hi : Int} (h : lo ≤ x ∧ x ≤ hi) : ¬ btw lo x hi = false := by
  rw [(btw_iff _ _ _).2 h]; decide
theorem seaE_of {wd hg : Int} {st : List Int} {hs : List Hr} (h48 : hs.length ≤ 48) (hw : 1 ≤ wd ∧ wd ≤ 24) (hh : 1 ≤ hg ∧ hg ≤ 24) (har : areB (wd * hg) st = true) (hok : ∀ k, k < hs.length → hrOk wd hg (hr hs k) = true) : seaE wd hg st hs = 0 := by
  unfold seaE
  rw [if_neg (by omega), if_neg (btw_of hw), if_neg (btw_of hh), if_neg (by rw [har]; decide), if_pos (hrs_ok hok)]
theorem seaE_take {wd hg : Int} {st : List Int} {hs : List Hr} (h : seaE wd hg st hs = 0) (m : Nat) : seaE wd hg st (hs.take m) = 0 := by
  obtain ⟨h48, hw, hh, har, hok⟩ := seaE_ok h
  refine seaE_of (by rw [List.length_take]; omega) hw hh har fun k hk => ?_
  rw [List.length_take] at hk
  rw [hr_take (by omega)]
  exact hok k (by omega)
theorem Hrs.take {n₀ : Nat} {W : World} {a : Option Addr} {len cap : Nat} {hs : List Hr} (h : Hrs n₀ W (.slice a len cap) hs) {m : Nat} (hm : m ≤ hs.length) : Hrs n₀ W (.slice a m cap) (hs.take m) := by
  obtain ⟨a', c', e, hle, hc⟩ := h
  simp only [Value.slice.injEq] at e
  obtain ⟨rfl, rfl, rfl⟩ := e
  have hl : (hs.take m).length = m := by rw [List.length_take]; omega
  refine ⟨a, cap, by rw [hl], by rw [hl]; omega, fun k hk => ?_⟩
  rw [hl] at hk
  rw [hr_take hk]
  exact hc k (by omega)
theorem Hrs.form {n₀ : Nat} {W : World} {sv : Value} {hs : List Hr} (h : Hrs n₀ W sv hs) : ∃ a c, sv = .slice a hs.length c := by
  obtain ⟨a, c, rfl, -, -⟩ := h
  exact ⟨a, c, rfl⟩
/-- a cell where an object begins may be -/
theorem mkL_at (n : Nat) (l : List Int) : ∀ k, k ≤ l.length → ∀ j, j < n → (∀ i, i < k → 0 ≤ vAt l i ∧ vAt l i < n) → (bAt (mkL n l k) j = true ↔ ∃ i, i < k ∧ vAt l i = (j : Int))
  | 0, _, j, hj, _ => by
    constructor
    · intro h
      simp [mkL, bAt, hj] at h
    · rintro ⟨i, hi, _⟩; omega
  | k + 1, hk, j, hj, hb => by
    have ih := mkL_at n l k (by omega) j hj (fun i hi => hb i (by omega))
    have hk1 := hb k (by omega)
    have e : bAt ((mkL n l k).set (vAt l k).toNat true) j = if j = (vAt l k).toNat then true else bAt (mkL n l k) j := by
      unfold bAt
      rw [List.getElem?_set]
      by_cases q : (vAt l k).toNat = j
      · rw [if_pos q, if_pos q.symm, if_pos (by rw [mkL_len]; omega)]; rfl
      · rw [if_neg q, if_neg (fun h => q h.symm)]
    show bAt ((mkL n l k).set (vAt l k).toNat true) j = true ↔ _
    rw [e]
    by_cases q : j = (vAt l k).toNat
    · rw [if_pos q]
      exact ⟨fun _ => ⟨k, by omega, by omega⟩, fun _ => rfl⟩
    · rw [if_neg q, ih]
      constructor
      · rintro ⟨i, a, b⟩; exact ⟨i, by omega, b⟩
      · rintro ⟨i, a, b⟩
        by_cases r : i = k
        · subst r; omega
        · exact ⟨i, by omega, b⟩
open Classical in
/-- a step within the area, to a cell that is not searched -/
theorem step_stays {wd hg : Int} {b0 : List Bool} {hs : List Hr} {k c m : Nat} {x y : Int} (hl : wd * hg = (b0.length : Int)) (hc : c < b0.length) (hb : bAt (stB wd hg b0 hs k) c = true) (hs1 : StepTo wd (hr hs k) c x y) (hi : InA wd hg x y) (hm : y * wd + x = (m : Int)) (hn : (m : Int) ∉ (hr hs k).se) : m < b0.length ∧ bAt (stB wd hg b0 hs (k + 1)) m = true := by
  have hlt : m < b0.length := by
    obtain ⟨h1, h2, h3, h4⟩ := hi
    have b : y * wd ≤ (hg - 1) * wd := Int.mul_le_mul_of_nonneg_right (by omega) (by omega)
    have e : (hg - 1) * wd = wd * hg - wd := by rw [Int.sub_mul, Int.one_mul, Int.mul_comm]
    omega
  refine ⟨hlt, ?_⟩
  show bAt (nextB wd hg (hr hs k) (stB wd hg b0 hs k)) m = true
  rw [nextB_at _ _ _ _ (by rw [stB_len]; exact hlt)]
  exact decide_eq_true ⟨⟨c, by rw [stB_len]; exact hc, hb, x, y, hs1, hi, hm⟩, hn⟩
open Classical in
/-- a step out of the area -/
theorem step_leaves {wd hg : Int} {b0 : List Bool} {hs : List Hr} {k c : Nat} {x y : Int} (hc : c < b0.length) (hb : bAt (stB wd hg b0 hs k) c = true) (hs1 : StepTo wd (hr hs k) c x y) (hi : ¬ InA wd hg x y) : stL wd hg b0 hs (k + 1) = true := by
  show (stL wd hg b0 hs k || leftB wd hg (hr hs k) (stB wd hg b0 hs k)) = true
  rw [show leftB wd hg (hr hs k) (stB wd hg b0 hs k) = true from decide_eq_true ⟨c, by rw [stB_len]; exact hc, hb, x, y, hs1, hi⟩, Bool.or_true]
/-- the same hours, of which each searches no less -/
def MoreSe (hs hs' : List Hr) : Prop := hs'.length = hs.length ∧ ∀ k, k < hs.length → (hr hs' k).eLo = (hr hs k).eLo ∧ (hr hs' k).eHi = (hr hs k).eHi ∧ (hr hs' k).nLo = (hr hs k).nLo ∧ (hr hs' k).nHi = (hr hs k).nHi ∧ ∀ x, x ∈ (hr hs k).se → x ∈ (hr hs' k).se
open Classical in
theorem more_st {wd hg : Int} {b0 : List Bool} {hs hs' : List Hr} (h : MoreSe hs hs') : ∀ k, k ≤ hs.length → (∀ j, j < b0.length → bAt (stB wd hg b0 hs' k) j = true → bAt (stB wd hg b0 hs k) j = true) ∧ (stL wd hg b0 hs' k = true → stL wd hg b0 hs k = true)
  | 0, _ => ⟨fun _ _ h => h, fun h => h⟩
  | k + 1, hk => by
    obtain ⟨ih1, ih2⟩ := more_st (wd := wd) (hg := hg) (b0 := b0) h k (by omega)
    obtain ⟨e1, e2, e3, e4, hse⟩ := h.2 k (by omega)
    have hst : ∀ c x y, StepTo wd (hr hs' k) c x y → StepTo wd (hr hs k) c x y := by
      rintro c x y ⟨e, n, a1, a2, a3, a4, a5⟩
      rw [e1] at a1; rw [e2] at a2; rw [e3] at a3; rw [e4] at a4
      exact ⟨e, n, a1, a2, a3, a4, a5⟩
    constructor
    · intro j hj hb
      have hb' : bAt (nextB wd hg (hr hs' k) (stB wd hg b0 hs' k)) j = true := hb
      rw [nextB_at _ _ _ _ (by rw [stB_len]; exact hj), decide_eq_true_eq] at hb'
      obtain ⟨⟨c, hc, hy, x, y, q1, q2, q3⟩, hn⟩ := hb'
      rw [stB_len] at hc
      exact (step_stays_at (wd := wd) (hg := hg) hj hc (ih1 c hc hy) (hst _ _ _ q1) q2 q3 (fun q => hn (hse _ q)))
    · intro hb
      have hb' : (stL wd hg b0 hs' k || leftB wd hg (hr hs' k) (stB wd hg b0 hs' k)) = true := hb
      rcases Bool.or_eq_true_iff.1 hb' with q | q
      · exact stL_mono (ih2 q) (Nat.le_succ k)
      · obtain ⟨c, hc, hy, x, y, q1, q2⟩ := of_decide_eq_true q
        rw [stB_len] at hc
        exact step_leaves hc (ih1 c hc hy) (hst _ _ _ q1) q2
where
  step_stays_at {wd hg : Int} {b0 : List Bool} {hs : List Hr} {k c m : Nat} {x y : Int} (hm0 : m < b0.length) (hc : c < b0.length) (hb : bAt (stB wd hg b0 hs k) c = true) (hs1 : StepTo wd (hr hs k) c x y) (hi : InA wd hg x y) (hm : y * wd + x = (m : Int)) (hn : (m : Int) ∉ (hr hs k).se) : bAt (stB wd hg b0 hs (k + 1)) m = true := by
    show bAt (nextB wd hg (hr hs k) (stB wd hg b0 hs k)) m = true
    rw [nextB_at _ _ _ _ (by rw [stB_len]; exact hm0)]
    exact decide_eq_true ⟨⟨c, by rw [stB_len]; exact hc, hb, x, y, hs1, hi, hm⟩, hn⟩
/-- with more cells searched it is found no later -/
theorem FoS.more {wd hg : Int} {b0 : List Bool} {hs hs' : List Hr} (h : MoreSe hs hs') {n n' e' : Int} (hf : FoS wd hg b0 hs n 0) (hf' : FoS wd hg b0 hs' n' e') : e' = 0 ∧ n' ≤ n := by
  rcases hf with ⟨k, a, b, c, rfl, -⟩ | ⟨-, -, e⟩
  · have hg' : Gone wd hg b0 hs' k := by
      obtain ⟨m1, m2⟩ := more_st (wd := wd) (hg := hg) (b0 := b0) h k a
      constructor
      · cases q : anyB (stB wd hg b0 hs' k)
        · rfl
        · obtain ⟨j, hj, hb⟩ := (any_iff _).1 q
          rw [stB_len] at hj
          have := any_some (by rw [stB_len]; exact hj) (m1 j hj hb)
          rw [b.1] at this
          exact absurd this (by decide)
      · cases q : stL wd hg b0 hs' k
        · rfl
        · have := m2 q
          rw [b.2] at this
          exact absurd this (by decide)
    rcases hf' with ⟨k', a', b', c', d', f'⟩ | ⟨a', b', c'⟩
    · refine ⟨f', ?_⟩
      rcases Nat.lt_or_ge k k' with q | q
      · exact absurd hg' (c' k q)
      · omega
    · exact absurd hg' (a' k (by rw [h.1]; exact a))
  · exact absurd e (by decide)
end Go.Proofs.Ythogahdnidjelaa
namespace Go.Proofs.Ythogahdnidjelaa
open Go.RowKit Go.Shelf
set_option linter.unusedSimpArgs false
noncomputable def whB (wd hg : Int) (st : List Int) (hs : List Hr) (k : Nat) : List Bool := stB wd hg (mkL (whN wd hg) st st.length) hs k
noncomputable def whL (wd hg : Int) (st : List Int) (hs : List Hr) (k : Nat) : Bool := stL wd hg (mkL (whN wd hg) st st.length) hs k
noncomputable def whV (wd hg : Int) (st : List Int) (hs : List Hr) : List Int := if seaE wd hg st hs = 0 then trL (whB wd hg st hs hs.length) (whN wd hg) else []
noncomputable def whX (wd hg : Int) (st : List Int) (hs : List Hr) : Bool := if seaE wd hg st hs = 0 then whL wd hg st hs hs.length else false
theorem whB_len (wd hg : Int) (st : List Int) (hs : List Hr) (k : Nat) : (whB wd hg st hs k).length = whN wd hg := (stB_len _ _ _ _ _).trans (mkL_len _ _ _)
/-- the reference's Where -/
theorem rwhere_any (wd hg : Int) (sv hv : Value) (st : List Int) (hs : List Hr) (hl1 : st.length ≤ 2147483649) (hl2 : ∀ k, k < hs.length → (hr hs k).se.length ≤ 2147483649) (w : World) (hI : Nums w.heap.size w sv st) (hH : Hrs w.heap.size w hv hs) :
    Calls Try.prog 42 #[.agg #[.int .i64 wd, .int .i64 hg], sv, hv] w fun e w' => ∃ v, e = .returned (.tuple #[v, .bool (whX wd hg st hs), .int .i64 (seaE wd hg st hs)]) ∧ Nums w'.heap.size w' v (whV wd hg st hs) ∧ Below w.heap.size w w' :=
  rwhere_of wd hg st hs (whN wd hg) (fun h => by obtain ⟨_, hw, hh, _⟩ := seaE_ok h; exact rdrift_any wd hg _ hw hh (whN_eq hw hh)) (fun h => by obtain ⟨_, hw, hh, _⟩ := seaE_ok h; exact whN_eq hw hh) sv hv hl1 hl2 w hI hH
set_option maxRecDepth 100000 in
set_option maxHeartbeats 8000000 in
theorem where_any (wd hg : Int) (sv hv : Value) (st : List Int) (hs : List Hr) (hl1 : st.length ≤ 2147483649) (hl2 : ∀ k, k < hs.length → (hr hs k).se.length ≤ 2147483649) (w : World) (hI : Nums w.heap.size w sv st) (hH : Hrs w.heap.size w hv hs) :
    Calls Try.prog 41 #[.agg #[.int .i64 wd, .int .i64 hg], sv, hv] w fun e w' => ∃ v, e = .returned (.tuple #[v, .bool (whX wd hg st hs), .int .i64 (seaE wd hg st hs)]) ∧ Nums w'.heap.size w' v (whV wd hg st hs) ∧ Below w.heap.size w w' := by
  unfold whX whV
  have c82 := fun W (hb : Below w.heap.size w W) => checkSearch_any wd hg sv hv st hs hl1 hl2 W (hI.at hb) (hH.at hb)
  have HOK := Lib.hid (fun h => seaE_ok (wd := wd) (hg := hg) (st := st) (hs := hs) h)
  have HI := Lib.hid hI
  have HH := Lib.hid hH
  obtain ⟨a, cap, rfl, -, -⟩ := hI
  obtain ⟨a2, cap2, rfl, -, -⟩ := hH
  generalize hE : seaE wd hg st hs = E at *
  have HA := Lib.hid (show Below w.heap.size w (w.alloc (.cells #[.int .i64 wd, .int .i64 hg] 54)) from (Below.refl _ _).alloc (Nat.le_refl _) _)
  by_cases h0 : E = 0
  rotate_left
  · rw [if_neg h0, if_neg h0]
    have hb : (E != 0) = true := by simpa using h0
    clear HOK HI HH hE h0
    generalize st.length = l1 at *
    generalize hs.length = l2 at *
    go_enter Try.func41, Try.ntmps41
    go_wp2_with fail
    refine (c82 _ HA.out).mono ?_
    rintro e w1 ⟨rfl, hb1⟩
    have HB1 := Lib.hid (HA.out.trans (hb1.mono (by simp)))
    clear hb1 c82
    go_wp2_with fail
    refine bodyPost_ret (v := .tuple #[.slice none 0 0, .bool false, .int .i64 E]) (by simp [results, Try.results41, go_sem]) rfl ⟨_, rfl, nums_nil _ _, HB1.out⟩
  subst h0
  rw [if_pos rfl, if_pos rfl]
  obtain ⟨h48, hw, hh, har, hok⟩ := HOK.out rfl
  have hn' := whN_eq hw hh
  have hn576 := (whN_le hw hh).2
  have HWL := Lib.hid (fun k => whB_len wd hg st hs k)
  have HOKK := Lib.hid hok
  have HBE := Lib.hid (fun W (hb : Below w.heap.size w W) => begin_any wd hg (whN wd hg) hw hh hn' _ st hl1 har W (HI.out.at hb))
  have HW0 := Lib.hid (show whB wd hg st hs 0 = mkL (whN wd hg) st st.length ∧ whL wd hg st hs 0 = false from ⟨rfl, rfl⟩)
  have HWS := Lib.hid (fun k => show whB wd hg st hs (k + 1) = nextB wd hg (hr hs k) (whB wd hg st hs k) ∧ whL wd hg st hs (k + 1) = (whL wd hg st hs k || leftB wd hg (hr hs k) (whB wd hg st hs k)) from ⟨rfl, rfl⟩)
  have HPA := Lib.hid (fun S B (hS0 : w.heap.size ≤ S) (hBS : B ≠ S) lf0 k (h : Hr) (s : Value) W (hA : SrchAt W S B wd hg (whN wd hg) lf0) hB hI hok => by
    have q := pass_any wd hg hw hh w.heap.size S B hS0 hBS lf0 (whB wd hg st hs k) (by rw [whB_len]; exact hn') h s W (by rw [whB_len]; exact hA) hB hI hok
    rw [whB_len] at q
    exact q)
  have HCE := Lib.hid (fun S B lf k W (hA : SrchAt W S B wd hg (whN wd hg) lf) hB => by
    have q := cells_any S B wd hg lf (whB wd hg st hs k) (by rw [whB_len]; exact hn576) W (by rw [whB_len]; exact hA) hB
    rw [whB_len] at q
    exact q)
  clear HOK hok har hw hh hn' hE HI
  generalize mkL (whN wd hg) st st.length = b0 at *
  generalize hN : whN wd hg = n at *
  clear hN
  generalize st.length = l1 at *
  have HLS := Lib.hid (show hs.length = hs.length from rfl)
  generalize hlen : hs.length = len at *
  have HLEN := Lib.hid hlen
  clear hlen HLS
  obtain ⟨A, hA⟩ : ∃ A, A = w.alloc (.cells #[.int .i64 wd, .int .i64 hg] 54) := ⟨_, rfl⟩
  have hzA : A.heap.size = w.heap.size + 1 := by rw [hA]; simp
  have KK := Lib.hid (show ∀ W, Below (w.heap.size + 1) A W → W.cell? ⟨w.heap.size, 0, none⟩ = some (.int .i64 wd) ∧ W.cell? ⟨w.heap.size, 1, none⟩ = some (.int .i64 hg) from fun W h => by
    refine ⟨(h.cell (p := ⟨w.heap.size, 0, none⟩) (Nat.lt_succ_self _)).trans ?_, (h.cell (p := ⟨w.heap.size, 1, none⟩) (Nat.lt_succ_self _)).trans ?_⟩ <;> (rw [hA]; simp [go_sem]))
  have HBA := Lib.hid (show ∀ W, Below (w.heap.size + 1) A W → Below w.heap.size w W from fun W h => by
    have e : Below w.heap.size w A := by rw [hA]; exact (Below.refl _ _).alloc (Nat.le_refl _) _
    exact e.trans (h.mono (Nat.le_succ _)))
  go_enter Try.func41, Try.ntmps41
  go_wp2_with fail
  try rw [← hA]
  clear hA HA
  refine (c82 _ (HBA.out _ (Below.refl _ _))).mono ?_
  rintro e w1 ⟨rfl, hb⟩
  have hB1 : Below (w.heap.size + 1) A w1 := hb.mono (by omega)
  clear hb c82
  obtain ⟨k0, k1⟩ := KK.out _ hB1
  go_wp2_with fail
  refine (HBE.out _ (HBA.out _ hB1)).mono ?_
  rintro e w2 ⟨S, B, rfl, hS, hBb, hBz, hBS, hb⟩
  have hB2 := HBA.out _ (hB1.trans (hb.mono (by have := hB1.size; omega)))
  have hs1 := hB1.size
  rw [hzA] at hs1
  have HB2 := Lib.hid hB2
  have HS := Lib.hid hS
  have HBb := Lib.hid hBb
  have hSw : w.heap.size ≤ S := by omega
  have hBS' : B ≠ S := by omega
  clear hb hB1 k0 k1 hS hB2 HBE hBb hBS hBz hs1
  go_wp2_with fail
  go_loopw [25] (fun i wr => ∃ (k B : Nat), k ≤ len ∧ i = .int .i64 k ∧ B ≠ S ∧ SrchAt wr S B wd hg n (whL wd hg st hs k) ∧ BB wr B (whB wd hg st hs k) ∧ Below w.heap.size w wr) (fun i _ => len - (intOf i).toNat)
  case atStart => exact ⟨0, B, Nat.zero_le _, rfl, hBS', by rw [HW0.out.2]; exact HS.out, by rw [HW0.out.1]; exact HBb.out, HB2.out⟩
  case round =>
    obtain ⟨k, F, hk, rfl, hFS, hS, hF, hBr⟩ := hrel
    have HBw := Lib.hid hBr
    have HSk := Lib.hid hS
    have HFk := Lib.hid hF
    have hSl := hS.lt
    have hsr := hBr.size
    clear hBr hS hF
    by_cases hlt : k < len
    · obtain ⟨a9, c9, e9, -, hcc⟩ := HH.out
      rw [HLEN.out] at e9
      simp only [Value.slice.injEq, true_and] at e9
      obtain ⟨rfl, rfl⟩ := e9
      obtain ⟨b, off, s, rfl, hb, e0, e1, e2, e3, e4, hnm⟩ := hcc k (by rw [HLEN.out]; exact hlt)
      have hki : (k : Int) < (len : Int) := by omega
      have m0 := (HBw.out.cell (p := ⟨b, off + k * 5, none⟩) hb).trans e0
      have m1 := (HBw.out.cell (p := ⟨b, off + k * 5 + 1, none⟩) hb).trans e1
      have m2 := (HBw.out.cell (p := ⟨b, off + k * 5 + 2, none⟩) hb).trans e2
      have m3 := (HBw.out.cell (p := ⟨b, off + k * 5 + 3, none⟩) hb).trans e3
      have m4 := (HBw.out.cell (p := ⟨b, off + k * 5 + 4, none⟩) hb).trans e4
      have HNM := Lib.hid (hnm.mono HBw.out (Nat.le_refl _))
      have HOKH := Lib.hid (HOKK.out k hlt)
      have HWSk := Lib.hid (HWS.out k)
      have HPAk := Lib.hid (fun W hA hB hI => HPA.out S F hSw hFS (whL wd hg st hs k) k (hr hs k) s W hA hB hI HOKH.out)
      obtain ⟨asl, csl, hse⟩ := hnm.form
      subst hse
      clear e0 e1 e2 e3 e4 hnm hcc
      generalize hr hs k = H at *
      generalize H.se.length = sl at *
      obtain ⟨W4, hW4⟩ : ∃ W4, W4 = (wr.alloc (.cells #[.int .i64 H.eLo, .int .i64 H.eHi, .int .i64 H.nLo, .int .i64 H.nHi, .slice asl sl csl] 81)) := ⟨_, rfl⟩
      have HW4 := Lib.hid hW4
      have HB4 := Lib.hid (show Below wr.heap.size wr W4 by rw [hW4]; exact (Below.refl _ _).alloc (Nat.le_refl _) _)
      clear hW4
      go_wp2_with fail
      try rw [← HW4.out]
      refine (HPAk.out W4 (HSk.out.keep HB4.out) (HFk.out.keep HB4.out) (HNM.out.mono (HB4.out.mono hsr) (Nat.le_refl _))).mono ?_
      rintro e w5 ⟨⟨v, rfl⟩, B', hS5, hF5, hz5, hz6, hb5⟩
      have h4 := HB4.out.size
      have HS5 := Lib.hid hS5
      have HF5 := Lib.hid hF5
      have HB5 := Lib.hid (HBw.out.trans ((HB4.out.mono hsr).trans hb5))
      have hne : B' ≠ S := by omega
      clear hS5 hF5 hb5 hz5 hz6
      go_wp2_with fail
      go_roundw
      case rel => exact ⟨k + 1, B', by omega, by go_num, hne, by rw [HWSk.out.2]; exact HS5.out, by rw [HWSk.out.1]; exact HF5.out, HB5.out⟩
      case measure => simp [intOf]; omega
    · obtain rfl : k = len := by omega
      have hce := HCE.out S F (whL wd hg st hs k) k wr.drew (HSk.out.keep ((Below.refl wr.heap.size wr).drew)) HFk.out
      have l0 := HSk.out.c3
      generalize hlf : whL wd hg st hs k = lf at *
      generalize hres : trL (whB wd hg st hs k) n = res at *
      have HCK := Lib.hid hce
      have HLF := Lib.hid hlf
      have HRES := Lib.hid hres
      clear hlf hres
      have HBD := Lib.hid (show Below w.heap.size w wr.drew from HBw.out.drew)
      clear hce
      go_wp2_with fail
      refine wp_region_held_drew (S := fun w' => w'.cell? ⟨S, 3, none⟩ = some (.bool lf)) (by kernel_rfl) (by simpa [go_sem] using l0) (fun hHeld => ?_)
      refine wpAnyH_take (i := 0) (oi := _) (v := Value.pointer (some ⟨S, 0, none⟩)) rfl (by kernel_rfl) (by kernel_rfl) (by kernel_rfl) (fun _ _ _ h => h) (Or.inl ⟨by rfl, fun w' hSw => ?_⟩) hHeld ?_
      · have t0 := hSw
        go_simp
        try simp [*]
        try (intro hh; exfalso; omega)
        try omega
      try simp only [Act.put, List.setIfInBounds_toArray, List.set_cons_zero, List.set_cons_succ, List.getElem_toArray, List.getElem_cons_succ, List.getElem_cons_zero]
      refine wpAnyH_take (i := 2) (oi := _) (v := Value.pointer (some ⟨S, 0, none⟩)) rfl (by kernel_rfl) (by kernel_rfl) (by kernel_rfl) (fun _ _ _ h => h) (Or.inl ⟨by rfl, fun w' hSw => ?_⟩) hHeld ?_
      · have t0 := hSw
        go_simp
        try simp [*]
        try (intro hh; exfalso; omega)
        try omega
      try simp only [Act.put, List.setIfInBounds_toArray, List.set_cons_zero, List.set_cons_succ, List.getElem_toArray, List.getElem_cons_succ, List.getElem_cons_zero]
      refine wpAnyH_take (i := 3) (oi := _) (v := Value.pointer (some ⟨S, 0, none⟩)) rfl (by kernel_rfl) (by kernel_rfl) (by kernel_rfl) (fun _ _ _ h => h) (Or.inl ⟨by rfl, fun w' hSw => ?_⟩) hHeld ?_
      · have t0 := hSw
        go_simp
        try simp [*]
        try (intro hh; exfalso; omega)
        try omega
      try simp only [Act.put, List.setIfInBounds_toArray, List.set_cons_zero, List.set_cons_succ, List.getElem_toArray, List.getElem_cons_succ, List.getElem_cons_zero]
      refine wpAnyH_take (i := 4) (oi := _) (v := Value.pointer (some ⟨S, 3, none⟩)) rfl (by kernel_rfl) (by kernel_rfl) (by kernel_rfl) (fun _ _ _ h => h) (Or.inl ⟨by rfl, fun w' hSw => ?_⟩) hHeld ?_
      · have t0 := hSw
        go_simp
        try simp [*]
        try (intro hh; exfalso; omega)
        try omega
      try simp only [Act.put, List.setIfInBounds_toArray, List.set_cons_zero, List.set_cons_succ, List.getElem_toArray, List.getElem_cons_succ, List.getElem_cons_zero]
      refine wpAnyH_take (i := 5) (oi := _) (v := Value.bool lf) rfl (by kernel_rfl) (by kernel_rfl) (by kernel_rfl) (fun _ _ _ h => h) (Or.inl ⟨by rfl, fun w' hSw => ?_⟩) hHeld ?_
      · have t0 := hSw
        go_simp
        try simp [*]
        try (intro hh; exfalso; omega)
        try omega
      try simp only [Act.put, List.setIfInBounds_toArray, List.set_cons_zero, List.set_cons_succ, List.getElem_toArray, List.getElem_cons_succ, List.getElem_cons_zero]
      refine wpAnyH_ready (rs := [1]) (by kernel_rfl) (by simp) ?_
      refine AllReadyH.cons (o := _) rfl (fun K hK => ?_) AllReadyH.nil
      go_simp
      go_at_call 85
      refine Calls.mono HCK.out ?_
      rintro e w5 ⟨v5, rfl, hP, hb⟩
      have HP5 := Lib.hid hP
      have HB5 := Lib.hid (HBD.out.trans (hb.mono (by simpa using hsr)))
      obtain ⟨a5, c5, rfl⟩ := hP.form
      have l5 := (hb.cell (p := ⟨S, 3, none⟩) (by simpa using hSl)).trans (show wr.drew.cell? ⟨S, 3, none⟩ = some (.bool lf) from l0)
      clear hb hP
      clear hHeld
      refine hK.out _ _ l5 (fun hHeld => ?_)
      clear hK K
      try simp only [Act.put, List.setIfInBounds_toArray, List.set_cons_zero, List.set_cons_succ, List.getElem_toArray, List.getElem_cons_succ, List.getElem_cons_zero]
      refine wpAnyH_take (i := 6) (oi := _) (v := Value.slice a5 res.length c5) rfl (by kernel_rfl) (by kernel_rfl) (by kernel_rfl) (fun _ _ _ h => h) (Or.inl ⟨by rfl, fun w' hSw => ?_⟩) hHeld ?_
      · have t0 := hSw
        go_simp
        try simp [*]
        try (intro hh; exfalso; omega)
        try omega
      try simp only [Act.put, List.setIfInBounds_toArray, List.set_cons_zero, List.set_cons_succ, List.getElem_toArray, List.getElem_cons_succ, List.getElem_cons_zero]
      refine wpAnyH_take (i := 7) (oi := _) (v := Value.bool lf) rfl (by kernel_rfl) (by kernel_rfl) (by kernel_rfl) (fun _ _ _ h => h) (Or.inl ⟨by rfl, fun w' hSw => ?_⟩) hHeld ?_
      · have t0 := hSw
        go_simp
        try simp [*]
        try (intro hh; exfalso; omega)
        try omega
      try simp only [Act.put, List.setIfInBounds_toArray, List.set_cons_zero, List.set_cons_succ, List.getElem_toArray, List.getElem_cons_succ, List.getElem_cons_zero]
      refine wpAnyH_take (i := 8) (oi := _) (v := Value.int .i64 0) rfl (by kernel_rfl) (by kernel_rfl) (by kernel_rfl) (fun _ _ _ h => h) (Or.inl ⟨by rfl, fun w' hSw => ?_⟩) hHeld ?_
      · have t0 := hSw
        go_simp
        try simp [*]
        try (intro hh; exfalso; omega)
        try omega
      try simp only [Act.put, List.setIfInBounds_toArray, List.set_cons_zero, List.set_cons_succ, List.getElem_toArray, List.getElem_cons_succ, List.getElem_cons_zero]
      refine wpAnyH_done (by kernel_rfl) ?_ _
      clear hHeld
      clear l0
      go_wp2_with fail
      refine bodyPost_ret (v := .tuple #[.slice a5 res.length c5, .bool lf, .int .i64 0]) (by simp [results, Try.results41, go_sem]) rfl ⟨_, by rw [HLF.out], by rw [HRES.out]; exact HP5.out, HB5.out⟩
end Go.Proofs.Ythogahdnidjelaa
namespace Go.Proofs.Ythogahdnidjelaa
open Go.RowKit Go.Shelf
set_option linter.unusedSimpArgs false
/-- what Found returns -/
def FoR (wd hg : Int) (st : List Int) (hs : List Hr) (n e : Int) : Prop := (seaE wd hg st hs ≠ 0 ∧ n = 0 ∧ e = seaE wd hg st hs) ∨ (seaE wd hg st hs = 0 ∧ FoS wd hg (mkL (whN wd hg) st st.length) hs n e)
theorem FoR.one {wd hg : Int} {st : List Int} {hs : List Hr} {n e n' e' : Int} (h : FoR wd hg st hs n e) (h' : FoR wd hg st hs n' e') : n = n' ∧ e = e' := by
  rcases h with ⟨a, b, c⟩ | ⟨a, b⟩
  · rcases h' with ⟨a', b', c'⟩ | ⟨a', b'⟩
    · exact ⟨b.trans b'.symm, c.trans c'.symm⟩
    · exact absurd a' a
  · rcases h' with ⟨a', b', c'⟩ | ⟨a', b'⟩
    · exact absurd a a'
    · exact b.one b'
theorem FoR.at0 {wd hg : Int} {st : List Int} {hs : List Hr} {n e : Int} (h : FoR wd hg st hs n e) (h0 : seaE wd hg st hs = 0) : FoS wd hg (mkL (whN wd hg) st st.length) hs n e := by
  rcases h with ⟨a, _⟩ | ⟨_, b⟩
  · exact absurd h0 a
  · exact b
set_option maxRecDepth 100000 in
set_option maxHeartbeats 8000000 in
theorem found_any (wd hg : Int) (sv hv : Value) (st : List Int) (hs : List Hr) (hl1 : st.length ≤ 2147483649) (hl2 : ∀ k, k < hs.length → (hr hs k).se.length ≤ 2147483649) (w : World) (hI : Nums w.heap.size w sv st) (hH : Hrs w.heap.size w hv hs) :
    Calls Try.prog 43 #[.agg #[.int .i64 wd, .int .i64 hg], sv, hv] w fun e w' => ∃ n f, e = .returned (.tuple #[.int .i64 n, .int .i64 f]) ∧ FoR wd hg st hs n f ∧ Below w.heap.size w w' := by
  have c82 := fun W (hb : Below w.heap.size w W) => checkSearch_any wd hg sv hv st hs hl1 hl2 W (hI.at hb) (hH.at hb)
  have HOK := Lib.hid (fun h => seaE_ok (wd := wd) (hg := hg) (st := st) (hs := hs) h)
  have HI := Lib.hid hI
  have HH := Lib.hid hH
  obtain ⟨a, cap, rfl, -, -⟩ := hI
  obtain ⟨a2, cap2, rfl, -, -⟩ := hH
  have HRR := Lib.hid (fun n e => show FoR wd hg st hs n e ↔ (seaE wd hg st hs ≠ 0 ∧ n = 0 ∧ e = seaE wd hg st hs) ∨ (seaE wd hg st hs = 0 ∧ FoS wd hg (mkL (whN wd hg) st st.length) hs n e) from Iff.rfl)
  generalize hE : seaE wd hg st hs = E at *
  have HA := Lib.hid (show Below w.heap.size w (w.alloc (.cells #[.int .i64 wd, .int .i64 hg] 54)) from (Below.refl _ _).alloc (Nat.le_refl _) _)
  by_cases h0 : E = 0
  rotate_left
  · have hb : (E != 0) = true := by simpa using h0
    have HF := Lib.hid ((HRR.out 0 E).2 (.inl ⟨h0, rfl, rfl⟩))
    generalize FoR wd hg st hs = FR at *
    clear HOK HI HH hE h0 HRR
    generalize st.length = l1 at *
    generalize hs.length = l2 at *
    go_enter Try.func43, Try.ntmps43
    go_wp2_with fail
    refine (c82 _ HA.out).mono ?_
    rintro e w1 ⟨rfl, hb1⟩
    have HB1 := Lib.hid (HA.out.trans (hb1.mono (by simp)))
    clear hb1 c82
    go_wp2_with fail
    refine bodyPost_ret (v := .tuple #[.int .i64 0, .int .i64 E]) (by simp [results, Try.results43, go_sem]) rfl ⟨0, E, rfl, HF.out, HB1.out⟩
  subst h0
  have HFR := Lib.hid (fun n e h => (HRR.out n e).2 (.inr ⟨rfl, h⟩))
  clear HRR
  obtain ⟨h48, hw, hh, har, hok⟩ := HOK.out rfl
  have hn' := whN_eq hw hh
  have hn576 := (whN_le hw hh).2
  have HWL := Lib.hid (fun k => whB_len wd hg st hs k)
  have HOKK := Lib.hid hok
  have HBE := Lib.hid (fun W (hb : Below w.heap.size w W) => begin_any wd hg (whN wd hg) hw hh hn' _ st hl1 har W (HI.out.at hb))
  have HW0 := Lib.hid (show whB wd hg st hs 0 = mkL (whN wd hg) st st.length ∧ whL wd hg st hs 0 = false from ⟨rfl, rfl⟩)
  have HWS := Lib.hid (fun k => show whB wd hg st hs (k + 1) = nextB wd hg (hr hs k) (whB wd hg st hs k) ∧ whL wd hg st hs (k + 1) = (whL wd hg st hs k || leftB wd hg (hr hs k) (whB wd hg st hs k)) from ⟨rfl, rfl⟩)
  have HPA := Lib.hid (fun S B (hS0 : w.heap.size ≤ S) (hBS : B ≠ S) lf0 k (h : Hr) (s : Value) W (hA : SrchAt W S B wd hg (whN wd hg) lf0) hB hI hok => by
    have q := pass_any wd hg hw hh w.heap.size S B hS0 hBS lf0 (whB wd hg st hs k) (by rw [whB_len]; exact hn') h s W (by rw [whB_len]; exact hA) hB hI hok
    rw [whB_len] at q
    exact q)
  have HCI := Lib.hid (fun S B lf k W (hA : SrchAt W S B wd hg (whN wd hg) lf) hB => by
    have q := inside_any S B wd hg lf (whB wd hg st hs k) (by rw [whB_len]; exact hn576) W (by rw [whB_len]; exact hA) hB
    exact q)
  have HFO := Lib.hid (fun k (hk : k ≤ hs.length) (hin : ∀ j, j < k → anyB (whB wd hg st hs j) = true) (h1 : anyB (whB wd hg st hs k) = false) (h2 : whL wd hg st hs k = false) => HFR.out _ _ (FoS.found (wd := wd) (hg := hg) (b0 := mkL (whN wd hg) st st.length) hk hin h1 h2))
  have HFN := Lib.hid (fun k (hin : ∀ j, j < k → anyB (whB wd hg st hs j) = true) (h1 : hs.length ≤ k ∨ anyB (whB wd hg st hs k) = false) (h2 : whL wd hg st hs k = true ∨ anyB (whB wd hg st hs k) = true) => HFR.out _ _ (FoS.never (wd := wd) (hg := hg) (b0 := mkL (whN wd hg) st st.length) hin h1 h2))
  generalize FoR wd hg st hs = FR at *
  clear HOK hok har hw hh hn' hE HI HFR
  generalize mkL (whN wd hg) st st.length = b0 at *
  generalize hN : whN wd hg = n at *
  clear hN
  generalize st.length = l1 at *
  have HLS := Lib.hid (show hs.length = hs.length from rfl)
  generalize hlen : hs.length = len at *
  have HLEN := Lib.hid hlen
  clear hlen HLS
  obtain ⟨A, hA⟩ : ∃ A, A = w.alloc (.cells #[.int .i64 wd, .int .i64 hg] 54) := ⟨_, rfl⟩
  have hzA : A.heap.size = w.heap.size + 1 := by rw [hA]; simp
  have KK := Lib.hid (show ∀ W, Below (w.heap.size + 1) A W → W.cell? ⟨w.heap.size, 0, none⟩ = some (.int .i64 wd) ∧ W.cell? ⟨w.heap.size, 1, none⟩ = some (.int .i64 hg) from fun W h => by
    refine ⟨(h.cell (p := ⟨w.heap.size, 0, none⟩) (Nat.lt_succ_self _)).trans ?_, (h.cell (p := ⟨w.heap.size, 1, none⟩) (Nat.lt_succ_self _)).trans ?_⟩ <;> (rw [hA]; simp [go_sem]))
  have HBA := Lib.hid (show ∀ W, Below (w.heap.size + 1) A W → Below w.heap.size w W from fun W h => by
    have e : Below w.heap.size w A := by rw [hA]; exact (Below.refl _ _).alloc (Nat.le_refl _) _
    exact e.trans (h.mono (Nat.le_succ _)))
  go_enter Try.func43, Try.ntmps43
  go_wp2_with fail
  try rw [← hA]
  clear hA HA
  refine (c82 _ (HBA.out _ (Below.refl _ _))).mono ?_
  rintro e w1 ⟨rfl, hb⟩
  have hB1 : Below (w.heap.size + 1) A w1 := hb.mono (by omega)
  clear hb c82
  obtain ⟨k0, k1⟩ := KK.out _ hB1
  go_wp2_with fail
  refine (HBE.out _ (HBA.out _ hB1)).mono ?_
  rintro e w2 ⟨S, B, rfl, hS, hBb, hBz, hBS, hb⟩
  have hB2 := HBA.out _ (hB1.trans (hb.mono (by have := hB1.size; omega)))
  have hs1 := hB1.size
  rw [hzA] at hs1
  have HB2 := Lib.hid hB2
  have HS := Lib.hid hS
  have HBb := Lib.hid hBb
  have hSw : w.heap.size ≤ S := by omega
  have hBS' : B ≠ S := by omega
  clear hb hB1 k0 k1 hS hB2 HBE hBb hBS hBz hs1
  go_wp2_with fail
  go_loopw [10] (fun i wr => ∃ (k B : Nat), k ≤ len ∧ i = .int .i64 k ∧ B ≠ S ∧ SrchAt wr S B wd hg n (whL wd hg st hs k) ∧ BB wr B (whB wd hg st hs k) ∧ (∀ j, j < k → anyB (whB wd hg st hs j) = true) ∧ Below w.heap.size w wr) (fun i _ => len - (intOf i).toNat)
  case atStart => exact ⟨0, B, Nat.zero_le _, rfl, hBS', by rw [HW0.out.2]; exact HS.out, by rw [HW0.out.1]; exact HBb.out, fun j hj => absurd hj (Nat.not_lt_zero _), HB2.out⟩
  case round =>
    obtain ⟨k, F, hk, rfl, hFS, hS, hF, hin, hBr⟩ := hrel
    have HIN := Lib.hid hin
    have HBw := Lib.hid hBr
    have HSk := Lib.hid hS
    have HFk := Lib.hid hF
    have hSl := hS.lt
    have hsr := hBr.size
    have hc90 := HCI.out S F (whL wd hg st hs k) k wr hS hF
    have l0 := hS.c3
    clear hBr hS hF hin
    by_cases hlt : k < len
    · have hki : (k : Int) < (len : Int) := by omega
      generalize hany : anyB (whB wd hg st hs k) = an at hc90
      have HANY := Lib.hid hany
      clear hany
      go_wp2_with fail
      refine hc90.mono ?_
      rintro e w3 ⟨rfl, hb⟩
      have HS3 := Lib.hid (HSk.out.keep hb)
      have HF3 := Lib.hid (HFk.out.keep hb)
      have HB3 := Lib.hid (HBw.out.trans (hb.mono hsr))
      have hz3 := hb.size
      clear hb hc90 l0
      cases an
      · have l3 := HS3.out.c3
        generalize hlf : whL wd hg st hs k = lf at l3
        have HLF := Lib.hid hlf
        clear hlf
        cases lf
        · have hc := HCI.out S F (whL wd hg st hs k) k w3 HS3.out HF3.out
          rw [HANY.out] at hc
          go_wp2_with fail
          refine hc.mono ?_
          rintro e w4 ⟨rfl, hb⟩
          have HB4 := Lib.hid (HB3.out.trans (hb.mono HB3.out.size))
          clear hb l3 hc
          go_wp2_with fail
          refine bodyPost_ret (v := .tuple #[.int .i64 k, .int .i64 0]) (by simp [results, Try.results43, go_sem]) rfl ⟨_, _, rfl, HFO.out k hk HIN.out HANY.out HLF.out, HB4.out⟩
        · go_wp2_with fail
          refine bodyPost_ret (v := .tuple #[.int .i64 0, .int .i64 5]) (by simp [results, Try.results43, go_sem]) rfl ⟨_, _, rfl, HFN.out k HIN.out (.inr HANY.out) (.inl HLF.out), HB3.out⟩
      · obtain ⟨a9, c9, e9, -, hcc⟩ := HH.out
        rw [HLEN.out] at e9
        simp only [Value.slice.injEq, true_and] at e9
        obtain ⟨rfl, rfl⟩ := e9
        obtain ⟨b, off, s, rfl, hb, e0, e1, e2, e3, e4, hnm⟩ := hcc k (by rw [HLEN.out]; exact hlt)
        have m0 := (HB3.out.cell (p := ⟨b, off + k * 5, none⟩) hb).trans e0
        have m1 := (HB3.out.cell (p := ⟨b, off + k * 5 + 1, none⟩) hb).trans e1
        have m2 := (HB3.out.cell (p := ⟨b, off + k * 5 + 2, none⟩) hb).trans e2
        have m3 := (HB3.out.cell (p := ⟨b, off + k * 5 + 3, none⟩) hb).trans e3
        have m4 := (HB3.out.cell (p := ⟨b, off + k * 5 + 4, none⟩) hb).trans e4
        have HWSk := Lib.hid (HWS.out k)
        have HPAk := Lib.hid (HPA.out S F hSw hFS (whL wd hg st hs k) k (hr hs k) s w3 HS3.out HF3.out (hnm.mono HB3.out (Nat.le_refl _)) (HOKK.out k hlt))
        obtain ⟨asl, csl, hse⟩ := hnm.form
        subst hse
        clear e0 e1 e2 e3 e4 hnm hcc
        generalize hr hs k = H at *
        generalize H.se.length = sl at *
        go_wp2_with fail
        refine HPAk.out.mono ?_
        rintro e w5 ⟨⟨v, rfl⟩, B', hS5, hF5, hz5, hz6, hb5⟩
        have HS5 := Lib.hid hS5
        have HF5 := Lib.hid hF5
        have HB5 := Lib.hid (HB3.out.trans hb5)
        have hne : B' ≠ S := by omega
        clear hS5 hF5 hb5 hz5 hz6
        go_wp2_with fail
        go_roundw
        case rel => exact ⟨k + 1, B', by omega, by go_num, hne, by rw [HWSk.out.2]; exact HS5.out, by rw [HWSk.out.1]; exact HF5.out, fun j hj => (by by_cases e : j = k; (subst e; exact HANY.out); exact HIN.out j (by omega)), HB5.out⟩
        case measure => simp [intOf]; omega
    · obtain rfl : k = len := by omega
      generalize hlf : whL wd hg st hs k = lf at l0
      have HLF := Lib.hid hlf
      generalize hany : anyB (whB wd hg st hs k) = an at hc90
      have HANY := Lib.hid hany
      clear hlf hany
      cases lf
      · go_wp2_with fail
        refine hc90.mono ?_
        rintro e w4 ⟨rfl, hb⟩
        have HB4 := Lib.hid (HBw.out.trans (hb.mono hsr))
        clear hb l0 hc90
        cases an
        · go_wp2_with fail
          refine bodyPost_ret (v := .tuple #[.int .i64 k, .int .i64 0]) (by simp [results, Try.results43, go_sem]) rfl ⟨_, _, rfl, HFO.out k (Nat.le_refl _) HIN.out HANY.out HLF.out, HB4.out⟩
        · go_wp2_with fail
          refine bodyPost_ret (v := .tuple #[.int .i64 0, .int .i64 5]) (by simp [results, Try.results43, go_sem]) rfl ⟨_, _, rfl, HFN.out k HIN.out (.inl (Nat.le_refl _)) (.inr HANY.out), HB4.out⟩
      · clear hc90
        go_wp2_with fail
        refine bodyPost_ret (v := .tuple #[.int .i64 0, .int .i64 5]) (by simp [results, Try.results43, go_sem]) rfl ⟨_, _, rfl, HFN.out k HIN.out (.inl (Nat.le_refl _)) (.inl HLF.out), HBw.out⟩
set_option maxRecDepth 100000 in
set_option maxHeartbeats 8000000 in
theorem rfound_any (wd hg : Int) (sv hv : Value) (st : List Int) (hs : List Hr) (hl1 : st.length ≤ 2147483649) (hl2 : ∀ k, k < hs.length → (hr hs k).se.length ≤ 2147483649) (w : World) (hI : Nums w.heap.size w sv st) (hH : Hrs w.heap.size w hv hs) :
    Calls Try.prog 44 #[.agg #[.int .i64 wd, .int .i64 hg], sv, hv] w fun e w' => ∃ n f, e = .returned (.tuple #[.int .i64 n, .int .i64 f]) ∧ FoR wd hg st hs n f ∧ Below w.heap.size w w' := by
  have c82 := fun W (hb : Below w.heap.size w W) => rsearch_any wd hg sv hv st hs hl1 hl2 W (hI.at hb) (hH.at hb)
  have HI := Lib.hid hI
  have HH := Lib.hid hH
  obtain ⟨a, cap, rfl, -, -⟩ := hI
  obtain ⟨a2, cap2, rfl, hcap2, -⟩ := hH
  have HWH := Lib.hid (fun m (hm : m ≤ hs.length) (h0 : seaE wd hg st hs = 0) W (hb : Below w.heap.size w W) => by
    have q := rwhere_any wd hg (.slice a st.length cap) (.slice a2 m cap2) st (hs.take m) hl1 (fun k hk => by rw [List.length_take] at hk; rw [hr_take (by omega)]; exact hl2 k (by omega)) W (HI.out.at hb) ((HH.out.at hb).take hm)
    have e : (hs.take m).length = m := by rw [List.length_take]; omega
    have e1 : whV wd hg st (hs.take m) = trL (whB wd hg st hs m) (whN wd hg) := by
      unfold whV whB
      rw [if_pos (seaE_take h0 m), e, stB_take (Nat.le_refl _)]
    have e2 : whX wd hg st (hs.take m) = whL wd hg st hs m := by
      unfold whX whL
      rw [if_pos (seaE_take h0 m), e, stL_take (Nat.le_refl _)]
    rw [e1, e2, seaE_take h0 m] at q
    exact q)
  have HRR := Lib.hid (fun n e => show FoR wd hg st hs n e ↔ (seaE wd hg st hs ≠ 0 ∧ n = 0 ∧ e = seaE wd hg st hs) ∨ (seaE wd hg st hs = 0 ∧ FoS wd hg (mkL (whN wd hg) st st.length) hs n e) from Iff.rfl)
  have HOK := Lib.hid (fun h => (seaE_ok (wd := wd) (hg := hg) (st := st) (hs := hs) h).1)
  generalize hE : seaE wd hg st hs = E at *
  have HA := Lib.hid (show Below w.heap.size w (w.alloc (.cells #[.int .i64 wd, .int .i64 hg] 54)) from (Below.refl _ _).alloc (Nat.le_refl _) _)
  by_cases h0 : E = 0
  rotate_left
  · have hb : (E != 0) = true := by simpa using h0
    have HF := Lib.hid ((HRR.out 0 E).2 (.inl ⟨h0, rfl, rfl⟩))
    generalize FoR wd hg st hs = FR at *
    clear HI HH hE h0 HRR HWH
    generalize st.length = l1 at *
    generalize hs.length = l2 at *
    go_enter Try.func44, Try.ntmps44
    go_wp2_with fail
    refine (c82 _ HA.out).mono ?_
    rintro e w1 ⟨rfl, hb1⟩
    have HB1 := Lib.hid (HA.out.trans (hb1.mono (by simp)))
    clear hb1 c82
    go_wp2_with fail
    refine bodyPost_ret (v := .tuple #[.int .i64 0, .int .i64 E]) (by simp [results, Try.results44, go_sem]) rfl ⟨0, E, rfl, HF.out, HB1.out⟩
  subst h0
  have h48 := HOK.out rfl
  have HFR := Lib.hid (fun n e h => (HRR.out n e).2 (.inr ⟨rfl, h⟩))
  have HFO := Lib.hid (fun k (hk : k ≤ hs.length) (hin : ∀ j, j < k → anyB (whB wd hg st hs j) = true) (h1 : anyB (whB wd hg st hs k) = false) (h2 : whL wd hg st hs k = false) => HFR.out _ _ (FoS.found (wd := wd) (hg := hg) (b0 := mkL (whN wd hg) st st.length) hk hin h1 h2))
  have HFL := Lib.hid (fun k (hin : ∀ j, j < k → anyB (whB wd hg st hs j) = true ∧ whL wd hg st hs j = false) (h2 : whL wd hg st hs k = true) => HFR.out 0 5 (.inr ⟨fun m _ g => by
    rcases Nat.lt_or_ge m k with q | q
    · have g1 := g.1
      have g2 := (hin m q).1
      unfold whB at g2
      rw [g2] at g1
      exact absurd g1 (by decide)
    · have g1 := g.2
      have g2 := stL_mono (wd := wd) (hg := hg) (hs := hs) (b0 := mkL (whN wd hg) st st.length) (j := k) h2 q
      rw [g2] at g1
      exact absurd g1 (by decide), rfl, rfl⟩))
  have HFV := Lib.hid (fun k (hin : ∀ j, j < k → anyB (whB wd hg st hs j) = true) (hk : hs.length < k) => HFR.out _ _ (FoS.over (wd := wd) (hg := hg) (b0 := mkL (whN wd hg) st st.length) hin hk))
  have HTE := Lib.hid (fun k => by
    have q := trL_empty (whB wd hg st hs k)
    rw [whB_len] at q
    exact q)
  generalize FoR wd hg st hs = FR at *
  clear HRR hE HI HFR HOK
  generalize whN wd hg = n at *
  generalize st.length = l1 at *
  have HLS := Lib.hid (show hs.length = hs.length from rfl)
  generalize hlen : hs.length = len at *
  clear hlen HLS HH
  obtain ⟨A, hA⟩ : ∃ A, A = w.alloc (.cells #[.int .i64 wd, .int .i64 hg] 54) := ⟨_, rfl⟩
  have hzA : A.heap.size = w.heap.size + 1 := by rw [hA]; simp
  have KK := Lib.hid (show ∀ W, Below (w.heap.size + 1) A W → W.cell? ⟨w.heap.size, 0, none⟩ = some (.int .i64 wd) ∧ W.cell? ⟨w.heap.size, 1, none⟩ = some (.int .i64 hg) from fun W h => by
    refine ⟨(h.cell (p := ⟨w.heap.size, 0, none⟩) (Nat.lt_succ_self _)).trans ?_, (h.cell (p := ⟨w.heap.size, 1, none⟩) (Nat.lt_succ_self _)).trans ?_⟩ <;> (rw [hA]; simp [go_sem]))
  have HBA := Lib.hid (show ∀ W, Below (w.heap.size + 1) A W → Below w.heap.size w W from fun W h => by
    have e : Below w.heap.size w A := by rw [hA]; exact (Below.refl _ _).alloc (Nat.le_refl _) _
    exact e.trans (h.mono (Nat.le_succ _)))
  go_enter Try.func44, Try.ntmps44
  go_wp2_with fail
  try rw [← hA]
  clear hA HA
  refine (c82 _ (HBA.out _ (Below.refl _ _))).mono ?_
  rintro e w1 ⟨rfl, hb⟩
  have hB1 : Below (w.heap.size + 1) A w1 := hb.mono (by omega)
  have HB1 := Lib.hid hB1
  clear hb c82 hB1
  go_wp2_with fail
  go_loopw [9] (fun i wr => ∃ k : Nat, k ≤ len + 1 ∧ i = .int .i64 k ∧ (∀ j, j < k → anyB (whB wd hg st hs j) = true ∧ whL wd hg st hs j = false) ∧ Below (w.heap.size + 1) A wr) (fun i _ => len + 1 - (intOf i).toNat)
  case atStart => exact ⟨0, Nat.zero_le _, rfl, fun j hj => absurd hj (Nat.not_lt_zero _), HB1.out⟩
  case round =>
    obtain ⟨k, hk, rfl, hin, hBr⟩ := hrel
    have HIN := Lib.hid hin
    have HBw := Lib.hid hBr
    have hsr := hBr.size
    rw [hzA] at hsr
    obtain ⟨k0, k1⟩ := KK.out _ hBr
    clear hBr hin
    by_cases hlt : k ≤ len
    · have hki : (k : Int) ≤ (len : Int) := by omega
      have hkc : (k : Int) ≤ (cap2 : Int) := by omega
      have HC := Lib.hid (HWH.out k hlt (by trivial) wr.drew (HBA.out _ HBw.out).drew)
      generalize hlf : whL wd hg st hs k = lf at *
      have HLF := Lib.hid hlf
      have hte := HTE.out k
      generalize hany : anyB (whB wd hg st hs k) = an at hte
      have HANY := Lib.hid hany
      have HTE2 := Lib.hid hte
      generalize trL (whB wd hg st hs k) n = res at *
      clear hlf hany hte
      go_wp2_with fail
      refine wp_region_held_drew (S := fun w' => w'.cell? ⟨w.heap.size, 0, none⟩ = some (.int .i64 wd) ∧ w'.cell? ⟨w.heap.size, 1, none⟩ = some (.int .i64 hg)) (by kernel_rfl) ⟨by simpa [go_sem] using k0, by simpa [go_sem] using k1⟩ (fun hHeld => ?_)
      refine wpAnyH_take (i := 0) (oi := _) (v := Value.agg #[Value.int .i64 wd, Value.int .i64 hg]) rfl (by kernel_rfl) (by kernel_rfl) (by kernel_rfl) (fun _ _ _ h => h) (Or.inl ⟨by rfl, fun w' hSw => ?_⟩) hHeld ?_
      · obtain ⟨t0, t1⟩ := hSw
        go_simp
        try simp [*]
        try (intro hh; exfalso; omega)
        try omega
      try simp only [Act.put, List.setIfInBounds_toArray, List.set_cons_zero, List.set_cons_succ, List.getElem_toArray, List.getElem_cons_succ, List.getElem_cons_zero]
      refine wpAnyH_take (i := 1) (oi := _) (v := Value.slice a l1 cap) rfl (by kernel_rfl) (by kernel_rfl) (by kernel_rfl) (fun _ _ _ h => h) (Or.inl ⟨by rfl, fun w' hSw => ?_⟩) hHeld ?_
      · obtain ⟨t0, t1⟩ := hSw
        go_simp
        try simp [*]
        try (intro hh; exfalso; omega)
        try omega
      try simp only [Act.put, List.setIfInBounds_toArray, List.set_cons_zero, List.set_cons_succ, List.getElem_toArray, List.getElem_cons_succ, List.getElem_cons_zero]
      refine wpAnyH_take (i := 2) (oi := _) (v := Value.slice a2 len cap2) rfl (by kernel_rfl) (by kernel_rfl) (by kernel_rfl) (fun _ _ _ h => h) (Or.inl ⟨by rfl, fun w' hSw => ?_⟩) hHeld ?_
      · obtain ⟨t0, t1⟩ := hSw
        go_simp
        try simp [*]
        try (intro hh; exfalso; omega)
        try omega
      try simp only [Act.put, List.setIfInBounds_toArray, List.set_cons_zero, List.set_cons_succ, List.getElem_toArray, List.getElem_cons_succ, List.getElem_cons_zero]
      refine wpAnyH_take (i := 3) (oi := _) (v := Value.int .i64 k) rfl (by kernel_rfl) (by kernel_rfl) (by kernel_rfl) (fun _ _ _ h => h) (Or.inl ⟨by rfl, fun w' hSw => ?_⟩) hHeld ?_
      · obtain ⟨t0, t1⟩ := hSw
        go_simp
        try simp [*]
        try (intro hh; exfalso; omega)
        try omega
      try simp only [Act.put, List.setIfInBounds_toArray, List.set_cons_zero, List.set_cons_succ, List.getElem_toArray, List.getElem_cons_succ, List.getElem_cons_zero]
      refine wpAnyH_take (i := 4) (oi := _) (v := Value.slice a2 k cap2) rfl (by kernel_rfl) (by kernel_rfl) (by kernel_rfl) (fun _ _ _ h => h) (Or.inl ⟨by rfl, fun w' hSw => ?_⟩) hHeld ?_
      · obtain ⟨t0, t1⟩ := hSw
        go_simp
        try simp [*]
        try (intro hh; exfalso; omega)
        try omega
      try simp only [Act.put, List.setIfInBounds_toArray, List.set_cons_zero, List.set_cons_succ, List.getElem_toArray, List.getElem_cons_succ, List.getElem_cons_zero]
      refine wpAnyH_ready (rs := [5]) (by kernel_rfl) (by simp) ?_
      refine AllReadyH.cons (o := _) rfl (fun K hK => ?_) AllReadyH.nil
      go_simp
      go_at_call 42
      refine Calls.mono HC.out ?_
      rintro e w5 ⟨v5, rfl, hP, hb⟩
      have HBn := Lib.hid (show Below (w.heap.size + 1) A w5 from HBw.out.drew.trans (hb.mono (by simpa using hsr)))
      obtain ⟨a5, c5, rfl⟩ := hP.form
      obtain ⟨q0, q1⟩ := KK.out _ HBn.out
      clear hb hP
      clear hHeld
      refine hK.out _ _ ⟨q0, q1⟩ (fun hHeld => ?_)
      clear hK K
      try simp only [Act.put, List.setIfInBounds_toArray, List.set_cons_zero, List.set_cons_succ, List.getElem_toArray, List.getElem_cons_succ, List.getElem_cons_zero]
      refine wpAnyH_take (i := 6) (oi := _) (v := .tuple #[.slice a5 res.length c5, .bool lf, .int .i64 0]) rfl (by kernel_rfl) (by kernel_rfl) (by kernel_rfl) (fun _ _ _ h => h) (Or.inl ⟨by rfl, fun w' hSw => ?_⟩) hHeld ?_
      · obtain ⟨t0, t1⟩ := hSw
        go_simp
        try simp [*]
        try (intro hh; exfalso; omega)
        try omega
      try simp only [Act.put, List.setIfInBounds_toArray, List.set_cons_zero, List.set_cons_succ, List.getElem_toArray, List.getElem_cons_succ, List.getElem_cons_zero]
      refine wpAnyH_take (i := 7) (oi := _) (v := .slice a5 res.length c5) rfl (by kernel_rfl) (by kernel_rfl) (by kernel_rfl) (fun _ _ _ h => h) (Or.inl ⟨by rfl, fun w' hSw => ?_⟩) hHeld ?_
      · obtain ⟨t0, t1⟩ := hSw
        go_simp
        try simp [*]
        try (intro hh; exfalso; omega)
        try omega
      try simp only [Act.put, List.setIfInBounds_toArray, List.set_cons_zero, List.set_cons_succ, List.getElem_toArray, List.getElem_cons_succ, List.getElem_cons_zero]
      refine wpAnyH_take (i := 8) (oi := _) (v := .bool lf) rfl (by kernel_rfl) (by kernel_rfl) (by kernel_rfl) (fun _ _ _ h => h) (Or.inl ⟨by rfl, fun w' hSw => ?_⟩) hHeld ?_
      · obtain ⟨t0, t1⟩ := hSw
        go_simp
        try simp [*]
        try (intro hh; exfalso; omega)
        try omega
      try simp only [Act.put, List.setIfInBounds_toArray, List.set_cons_zero, List.set_cons_succ, List.getElem_toArray, List.getElem_cons_succ, List.getElem_cons_zero]
      refine wpAnyH_take (i := 9) (oi := _) (v := .int .i64 0) rfl (by kernel_rfl) (by kernel_rfl) (by kernel_rfl) (fun _ _ _ h => h) (Or.inl ⟨by rfl, fun w' hSw => ?_⟩) hHeld ?_
      · obtain ⟨t0, t1⟩ := hSw
        go_simp
        try simp [*]
        try (intro hh; exfalso; omega)
        try omega
      try simp only [Act.put, List.setIfInBounds_toArray, List.set_cons_zero, List.set_cons_succ, List.getElem_toArray, List.getElem_cons_succ, List.getElem_cons_zero]
      refine wpAnyH_take (i := 10) (oi := _) (v := .slice a5 res.length c5) rfl (by kernel_rfl) (by kernel_rfl) (by kernel_rfl) (fun _ _ _ h => h) (Or.inl ⟨by rfl, fun w' hSw => ?_⟩) hHeld ?_
      · obtain ⟨t0, t1⟩ := hSw
        go_simp
        try simp [*]
        try (intro hh; exfalso; omega)
        try omega
      try simp only [Act.put, List.setIfInBounds_toArray, List.set_cons_zero, List.set_cons_succ, List.getElem_toArray, List.getElem_cons_succ, List.getElem_cons_zero]
      refine wpAnyH_take (i := 11) (oi := _) (v := .bool lf) rfl (by kernel_rfl) (by kernel_rfl) (by kernel_rfl) (fun _ _ _ h => h) (Or.inl ⟨by rfl, fun w' hSw => ?_⟩) hHeld ?_
      · obtain ⟨t0, t1⟩ := hSw
        go_simp
        try simp [*]
        try (intro hh; exfalso; omega)
        try omega
      try simp only [Act.put, List.setIfInBounds_toArray, List.set_cons_zero, List.set_cons_succ, List.getElem_toArray, List.getElem_cons_succ, List.getElem_cons_zero]
      refine wpAnyH_take (i := 12) (oi := _) (v := .int .i64 0) rfl (by kernel_rfl) (by kernel_rfl) (by kernel_rfl) (fun _ _ _ h => h) (Or.inl ⟨by rfl, fun w' hSw => ?_⟩) hHeld ?_
      · obtain ⟨t0, t1⟩ := hSw
        go_simp
        try simp [*]
        try (intro hh; exfalso; omega)
        try omega
      try simp only [Act.put, List.setIfInBounds_toArray, List.set_cons_zero, List.set_cons_succ, List.getElem_toArray, List.getElem_cons_succ, List.getElem_cons_zero]
      refine wpAnyH_done (by kernel_rfl) ?_ _
      clear hHeld
      clear k0 k1 q0 q1
      cases lf
      · have hte := HTE2.out
        generalize res.length = rl at *
        by_cases hr0 : rl = 0
        · subst hr0
          obtain rfl : an = false := by rw [hte]; rfl
          clear hte
          go_wp2_with fail
          refine bodyPost_ret (v := .tuple #[.int .i64 k, .int .i64 0]) (by simp [results, Try.results44, go_sem]) rfl ⟨_, _, rfl, HFO.out k hlt (fun j hj => (HIN.out j hj).1) HANY.out HLF.out, HBA.out _ HBn.out⟩
        · obtain rfl : an = true := by rw [hte]; exact decide_eq_true (by omega)
          clear hte
          have hr1 : ((rl : Int) == 0) = false := by simp; omega
          go_wp2_with fail
          go_roundw
          case rel => exact ⟨k + 1, by omega, by go_num, fun j hj => (by by_cases e : j = k; (subst e; exact ⟨HANY.out, HLF.out⟩); exact HIN.out j (by omega)), HBn.out⟩
          case measure => simp [intOf]; omega
      · go_wp2_with fail
        refine bodyPost_ret (v := .tuple #[.int .i64 0, .int .i64 5]) (by simp [results, Try.results44, go_sem]) rfl ⟨_, _, rfl, HFL.out k HIN.out HLF.out, HBA.out _ HBn.out⟩
    · obtain rfl : k = len + 1 := by omega
      go_wp2_with fail
      refine bodyPost_ret (v := .tuple #[.int .i64 0, .int .i64 5]) (by simp [results, Try.results44, go_sem]) rfl ⟨_, _, rfl, HFV.out (len + 1) (fun j hj => (HIN.out j hj).1) (Nat.lt_succ_self _), HBA.out _ HBw.out⟩
end Go.Proofs.Ythogahdnidjelaa
namespace Go.Proofs.Ythogahdnidjelaa
open Go.RowKit Go.Shelf
set_option linter.unusedSimpArgs false
/-- a search that is not too wide -/
def Slim (st : List Int) (hs : List Hr) : Prop := st.length ≤ 700 ∧ (hs.length ≤ 8 ∨ 48 < hs.length) ∧ hs.length ≤ 60 ∧ ∀ k, k < hs.length → (hr hs k).se.length ≤ 700
set_option maxRecDepth 100000 in
set_option maxHeartbeats 4000000 in
theorem wide_any (sv hv : Value) (st : List Int) (hs : List Hr) (w : World) (hI : Nums w.heap.size w sv st) (hH : Hrs w.heap.size w hv hs) :
    Calls Try.prog 40 #[sv, hv] w fun e w' => ∃ b, e = .returned (.bool b) ∧ (b = false → Slim st hs) ∧ Below w.heap.size w w' := by
  have HSL := Lib.hid (show Slim st hs ↔ st.length ≤ 700 ∧ (hs.length ≤ 8 ∨ 48 < hs.length) ∧ hs.length ≤ 60 ∧ ∀ k, k < hs.length → (hr hs k).se.length ≤ 700 from Iff.rfl)
  generalize Slim st hs = SL at *
  obtain ⟨a, cap, rfl, -, -⟩ := hI
  obtain ⟨a2, cap2, rfl, -, hc⟩ := hH
  have HC := Lib.hid hc
  clear hc
  generalize st.length = l1 at *
  generalize hs.length = len at *
  by_cases h1 : 700 < l1
  · go_enter Try.func40, Try.ntmps40
    go_wp2_with fail
    refine bodyPost_ret (v := .bool true) (by simp [results, Try.results40, go_sem]) rfl (by first | exact .inr ⟨rfl, Below.refl _ _⟩ | exact ⟨true, rfl, fun h => (by cases h), Below.refl _ _⟩)
  by_cases h2 : 8 < len ∧ len ≤ 48
  · obtain ⟨h2, h3⟩ := h2
    go_enter Try.func40, Try.ntmps40
    go_wp2_with fail
    refine bodyPost_ret (v := .bool true) (by simp [results, Try.results40, go_sem]) rfl (by first | exact .inr ⟨rfl, Below.refl _ _⟩ | exact ⟨true, rfl, fun h => (by cases h), Below.refl _ _⟩)
  by_cases h4 : 60 < len
  · have h5 : 8 < len := by omega
    have h6 : ¬ len ≤ 48 := by omega
    clear h2
    go_enter Try.func40, Try.ntmps40
    go_wp2_with fail
    refine bodyPost_ret (v := .bool true) (by simp [results, Try.results40, go_sem]) rfl (by first | exact .inr ⟨rfl, Below.refl _ _⟩ | exact ⟨true, rfl, fun h => (by cases h), Below.refl _ _⟩)
  have HOK := Lib.hid (fun h => HSL.out.2 ⟨by omega, by omega, by omega, h⟩)
  clear HSL
  have hx : ¬ 8 < len ∨ (8 < len ∧ ¬ len ≤ 48) := by omega
  clear h2
  rcases hx with h8 | ⟨h8, h48⟩
  all_goals
    go_enter Try.func40, Try.ntmps40
    go_wp2_with fail
    go_loopw [5] (fun i wr => ∃ k : Nat, k ≤ len ∧ i = .int .i64 k ∧ (∀ j, j < k → (hr hs j).se.length ≤ 700) ∧ Below w.heap.size w wr) (fun i _ => len - (intOf i).toNat)
    case atStart => exact ⟨0, Nat.zero_le _, rfl, fun j hj => absurd hj (Nat.not_lt_zero _), Below.refl _ _⟩
    case round =>
      obtain ⟨k, hk, rfl, hin, hB⟩ := hrel
      have HIN := Lib.hid hin
      have HB := Lib.hid hB
      clear hin
      by_cases hlt : k < len
      · obtain ⟨b, off, s, rfl, hb, e0, e1, e2, e3, e4, hnm⟩ := HC.out k hlt
        have hki : (k : Int) < (len : Int) := by omega
        have m4 := (hB.cell (p := ⟨b, off + k * 5 + 4, none⟩) hb).trans e4
        obtain ⟨asl, csl, hse⟩ := hnm.form
        subst hse
        have HSE := Lib.hid (show (hr hs k).se.length = (hr hs k).se.length from rfl)
        generalize hsl : (hr hs k).se.length = sl at m4
        have HSL := Lib.hid hsl
        clear e0 e1 e2 e3 e4 hnm hsl hB
        by_cases h7 : 700 < sl
        · go_wp2_with fail
          refine bodyPost_ret (v := .bool true) (by simp [results, Try.results40, go_sem]) rfl (by first | exact .inr ⟨rfl, HB.out⟩ | exact ⟨true, rfl, fun h => (by cases h), HB.out⟩)
        · go_wp2_with fail
          go_roundw
          case rel => exact ⟨k + 1, by omega, by go_num, fun j hj => (by by_cases e : j = k; (subst e; rw [HSL.out]; omega); exact HIN.out j (by omega)), HB.out⟩
          case measure => simp [intOf]; omega
      · obtain rfl : k = len := by omega
        clear hB
        go_wp2_with fail
        refine bodyPost_ret (v := .bool false) (by simp [results, Try.results40, go_sem]) rfl (by first | exact .inl ⟨rfl, HOK.out HIN.out, HB.out⟩ | exact ⟨false, rfl, fun _ => HOK.out HIN.out, HB.out⟩)
theorem whV_len (wd hg : Int) (st : List Int) (hs : List Hr) : (whV wd hg st hs).length ≤ 2147483649 := by
  unfold whV
  split
  · rename_i h
    obtain ⟨_, hw, hh, _⟩ := seaE_ok h
    have := (whN_le hw hh).2
    exact Nat.le_trans (trL_len _ _) (by omega)
  · simp
set_option maxRecDepth 100000 in
set_option maxHeartbeats 4000000 in
theorem law_searches (hf : ∀ w, Calls Try.prog 15 #[] w fun e w' => e = .returned (.bool true) ∧ Below w.heap.size w w') (wd hg : Int) (sv hv : Value) (st : List Int) (hs : List Hr) (w : World) (hI : Nums w.heap.size w sv st) (hH : Hrs w.heap.size w hv hs) :
    Calls Try.prog 6 #[.agg #[.int .i64 wd, .int .i64 hg], sv, hv] w fun e w' => e = .returned (.bool true) ∧ Below w.heap.size w w' := by
  have c40 := Lib.hid (fun W (hb : Below w.heap.size w W) => wide_any sv hv st hs W (hI.at hb) (hH.at hb))
  have c41 := Lib.hid (fun (h : Slim st hs) W (hb : Below w.heap.size w W) => where_any wd hg sv hv st hs (by have := h.1; omega) (fun k hk => by have := h.2.2.2 k hk; omega) W (hI.at hb) (hH.at hb))
  have c42 := Lib.hid (fun (h : Slim st hs) W (hb : Below w.heap.size w W) => rwhere_any wd hg sv hv st hs (by have := h.1; omega) (fun k hk => by have := h.2.2.2 k hk; omega) W (hI.at hb) (hH.at hb))
  have c43 := Lib.hid (fun (h : Slim st hs) W (hb : Below w.heap.size w W) => found_any wd hg sv hv st hs (by have := h.1; omega) (fun k hk => by have := h.2.2.2 k hk; omega) W (hI.at hb) (hH.at hb))
  have c44 := Lib.hid (fun (h : Slim st hs) W (hb : Below w.heap.size w W) => rfound_any wd hg sv hv st hs (by have := h.1; omega) (fun k hk => by have := h.2.2.2 k hk; omega) W (hI.at hb) (hH.at hb))
  have c39 := Lib.hid (fun sv tv w (hS : Nums w.heap.size w sv (whV wd hg st hs)) (hT : Nums w.heap.size w tv (whV wd hg st hs)) => numbers_yes sv tv _ (whV_len wd hg st hs) w hS hT)
  have HONE := Lib.hid (fun n e n' e' => FoR.one (wd := wd) (hg := hg) (st := st) (hs := hs) (n := n) (e := e) (n' := n') (e' := e'))
  obtain ⟨a, cap, rfl⟩ := hI.form
  obtain ⟨a2, cap2, rfl⟩ := hH.form
  clear hI hH
  generalize FoR wd hg st hs = FR at *
  generalize Slim st hs = SL at *
  generalize whV wd hg st hs = V at *
  generalize whX wd hg st hs = X at *
  generalize seaE wd hg st hs = E at *
  generalize st.length = l1 at *
  generalize hs.length = l2 at *
  obtain ⟨A, hA⟩ : ∃ A, A = w.alloc (.cells #[.int .i64 wd, .int .i64 hg] 54) := ⟨_, rfl⟩
  have hzA : A.heap.size = w.heap.size + 1 := by rw [hA]; simp
  have KK := Lib.hid (show ∀ W, Below (w.heap.size + 1) A W → W.cell? ⟨w.heap.size, 0, none⟩ = some (.int .i64 wd) ∧ W.cell? ⟨w.heap.size, 1, none⟩ = some (.int .i64 hg) from fun W h => by
    refine ⟨(h.cell (p := ⟨w.heap.size, 0, none⟩) (Nat.lt_succ_self _)).trans ?_, (h.cell (p := ⟨w.heap.size, 1, none⟩) (Nat.lt_succ_self _)).trans ?_⟩ <;> (rw [hA]; simp [go_sem]))
  have HBA := Lib.hid (show ∀ W, Below (w.heap.size + 1) A W → Below w.heap.size w W from fun W h => by
    have e : Below w.heap.size w A := by rw [hA]; exact (Below.refl _ _).alloc (Nat.le_refl _) _
    exact e.trans (h.mono (Nat.le_succ _)))
  have HST := Lib.hid (show ∀ W W', Below (w.heap.size + 1) A W → Below W.heap.size W W' → Below (w.heap.size + 1) A W' from fun W W' h h' => h.trans (h'.mono (by have := h.size; omega)))
  go_enter Try.func6, Try.ntmps6
  go_wp2_with fail
  try rw [← hA]
  clear hA
  refine (c40.out _ (HBA.out _ (Below.refl _ _))).mono ?_
  rintro e w1 ⟨b, rfl, hsl, hb⟩
  have HSL := Lib.hid hsl
  have hB1 : Below (w.heap.size + 1) A w1 := hb.mono (by omega)
  clear hb c40 hsl
  cases b
  rotate_left
  · have HB1 := Lib.hid hB1
    clear hB1
    go_wp2_with fail
    refine (hf _).mono ?_
    rintro e w6 ⟨rfl, hb6⟩
    have HB6 := Lib.hid (HBA.out _ (HST.out _ _ HB1.out hb6))
    clear hb6 hf
    go_wp2_with fail
    go_ret
    exact ⟨rfl, HB6.out⟩
  have hS := HSL.out rfl
  obtain ⟨k0, k1⟩ := KK.out _ hB1
  have HB1 := Lib.hid hB1
  clear hB1
  go_wp2_with fail
  refine (c41.out hS _ (HBA.out _ HB1.out)).mono ?_
  rintro e w2 ⟨v2, rfl, hv2, hb⟩
  have HV2 := Lib.hid hv2
  have HB2 := Lib.hid (HST.out _ _ HB1.out hb)
  obtain ⟨q2, d2, rfl⟩ := hv2.form
  clear hv2 hb k0 k1
  obtain ⟨k0, k1⟩ := KK.out _ HB2.out
  go_wp2_with fail
  refine (c42.out hS _ (HBA.out _ HB2.out)).mono ?_
  rintro e w3 ⟨v3, rfl, hv3, hb⟩
  have HV3 := Lib.hid hv3
  have HV2' := Lib.hid (HV2.out.at hb)
  have HB3 := Lib.hid (HST.out _ _ HB2.out hb)
  obtain ⟨q3, d3, rfl⟩ := hv3.form
  clear hv3 hb k0 k1 HV2
  obtain ⟨k0, k1⟩ := KK.out _ HB3.out
  go_wp2_with fail
  refine (c43.out hS _ (HBA.out _ HB3.out)).mono ?_
  rintro e w4 ⟨n4, f4, rfl, hf4, hb⟩
  have HF4 := Lib.hid hf4
  have HV2 := Lib.hid (HV2'.out.at hb)
  have HV3' := Lib.hid (HV3.out.at hb)
  have HB4 := Lib.hid (HST.out _ _ HB3.out hb)
  clear hf4 hb k0 k1 HV2' HV3
  obtain ⟨k0, k1⟩ := KK.out _ HB4.out
  go_wp2_with fail
  refine (c44.out hS _ (HBA.out _ HB4.out)).mono ?_
  rintro e w5 ⟨n5, f5, rfl, hf5, hb⟩
  obtain ⟨rfl, rfl⟩ := HONE.out _ _ _ _ HF4.out hf5
  have HV2' := Lib.hid (HV2.out.at hb)
  have HV3 := Lib.hid (HV3'.out.at hb)
  have HB5 := Lib.hid (HST.out _ _ HB4.out hb)
  clear hf5 hb k0 k1 HV2 HV3' HF4
  go_wp2_with fail
  refine (c39.out _ _ _ HV2'.out HV3.out).mono ?_
  rintro e w6 ⟨rfl, hb⟩
  have HB6 := Lib.hid (HST.out _ _ HB5.out hb)
  clear hb
  go_wp2_with fail
  refine (hf _).mono ?_
  rintro e w7 ⟨rfl, hb⟩
  have HB7 := Lib.hid (HBA.out _ (HST.out _ _ HB6.out hb))
  clear hb hf
  go_wp2_with fail
  go_ret
  exact ⟨rfl, HB7.out⟩
end Go.Proofs.Ythogahdnidjelaa

/-
  Glider in this seat: Visited.
-/
import Derived.Test.YthegcbpmammokaaGlI
namespace Go.Proofs.Ythegcbpmammokaa
open Go.RowKit
set_option linter.unusedSimpArgs false
set_option maxHeartbeats 4000000
set_option maxRecDepth 100000
def two (a b : Int) (k : Nat) : Int := if k = 0 then a else b
theorem two_zero {a b : Int} (h : fstE (two a b) 2 = 0) : a = 0 ∧ b = 0 := ⟨fstE_zero h 0 (by decide), fstE_zero h 1 (by decide)⟩
noncomputable def visE (s : Sea) (rs : List (List Q4)) : Int := fstE (two (seaE s) (runE rs)) 2
/-- the answers of the first cells -/
def viT (nx cell : Int) (rs : List (List Q4)) (k : Nat) : List Int := (List.range k).map fun c => visV rs (cellQ nx cell c)
theorem viT_succ (nx cell : Int) (rs : List (List Q4)) (k : Nat) : viT nx cell rs (k + 1) = viT nx cell rs k ++ [visV rs (cellQ nx cell k)] := by
  unfold viT
  rw [List.range_succ, List.map_append]
  rfl
theorem viT_len (nx cell : Int) (rs : List (List Q4)) (k : Nat) : (viT nx cell rs k).length = k := by simp [viT]
/-- what Visited gives -/
def VsR (s : Sea) (rs : List (List Q4)) (w : World) (e : Ending) (w' : World) : Prop :=
  ∃ v, e = .returned (.tuple #[v, .int .i64 (visE s rs)]) ∧ (visE s rs ≠ 0 → v = .slice none 0 0) ∧ (visE s rs = 0 → ∃ n : Nat, s.nx * s.ny = (n : Int) ∧ SlA w' v (viT s.nx s.cell rs n)) ∧ Below w.heap.size w w'
theorem visited14_any (s : Sea) (sa : Option Addr) (sc : Nat) (cv rv : Value) (rs : List (List Q4)) (w : World) (hC : Q4s w.heap.size w cv s.cs) (hR : Rns w.heap.size w rv rs) :
    Calls Try.prog 14 #[.agg #[.int .i64 s.nx, .int .i64 s.ny, .int .i64 s.cell, .int .i64 s.slot, .int .i64 s.slots, .int .i64 s.layers, .int .i64 s.most, .slice sa s.sl sc, cv], rv] w (VsR s rs w) := by
  have c19 := Lib.hid (fun W (hb : Below w.heap.size w W) => checkSea_any s sa sc cv W (hC.at hb))
  have c40 := Lib.hid (fun W (hb : Below w.heap.size w W) => checkRuns_any rv rs W (hR.at hb))
  have HVE := Lib.hid (show visE s rs = fstE (two (seaE s) (runE rs)) 2 from rfl)
  have c18 := Lib.hid (fun b W hc => first_any b 2 2 (two (seaE s) (runE rs)) (by decide) W hc)
  rw [← HVE.out] at c18
  have HSP := Lib.hid (fun (h : visE s rs = 0) => seaE_get (two_zero h).1)
  have HRP := Lib.hid (fun (h : visE s rs = 0) => runE_get (two_zero h).2)
  have HVR := Lib.hid (fun e w' => show VsR s rs w e w' ↔ ∃ v, e = .returned (.tuple #[v, .int .i64 (visE s rs)]) ∧ (visE s rs ≠ 0 → v = .slice none 0 0) ∧ (visE s rs = 0 → ∃ n : Nat, s.nx * s.ny = (n : Int) ∧ SlA w' v (viT s.nx s.cell rs n)) ∧ Below w.heap.size w w' from Iff.rfl)
  have c41 := Lib.hid (fun (h : visE s rs = 0) y W (hb : Below w.heap.size w W) => visited_any rv rs y (runE_get (two_zero h).2).1 (fun k hk => (boxE_get ((runE_get (two_zero h).2).2 k hk)).1) W (hR.at hb))
  obtain ⟨ca, cc, rfl⟩ := hC.form
  obtain ⟨ra, rc, rfl⟩ := hR.form
  have HSQ := Lib.hid (show seaP s → (1 ≤ s.nx ∧ s.nx ≤ 12) ∧ (1 ≤ s.ny ∧ s.ny ≤ 12) ∧ (100 ≤ s.cell ∧ s.cell ≤ 65536) from fun h => ⟨h.1.1, h.1.2.1, h.1.2.2.1⟩)
  have HTS := Lib.hid (fun k => viT_succ s.nx s.cell rs k)
  have HTL := Lib.hid (fun k => viT_len s.nx s.cell rs k)
  have HT0 := Lib.hid (show viT s.nx s.cell rs 0 = [] from rfl)
  clear hC hR HVE
  generalize VsR s rs w = R at *
  generalize visE s rs = E at *
  generalize seaE s = e1 at *
  generalize runE rs = e2 at *
  generalize seaP s = SP at *
  generalize s.cs.length = cl at *
  generalize rs.length = rl at *
  generalize s.nx = nx at *
  generalize s.ny = ny at *
  generalize s.cell = cell at *
  generalize s.slot = slot at *
  generalize s.slots = slots at *
  generalize s.layers = layers at *
  generalize s.most = most at *
  generalize s.sl = sl at *
  generalize viT nx cell rs = T at *
  generalize hVV : visV rs = VV at *
  clear hVV
  obtain ⟨i0, hi0, hz0, hz1, hz2⟩ := info_parts infoA
  obtain ⟨A, hA⟩ : ∃ A, A = w.alloc (.cells #[.int .i64 nx, .int .i64 ny, .int .i64 cell, .int .i64 slot, .int .i64 slots, .int .i64 layers, .int .i64 most, .slice sa sl sc, .slice ca cl cc] 25) := ⟨_, rfl⟩
  have hBA : Below w.heap.size w A := by rw [hA]; exact (Below.refl _ _).alloc (Nat.le_refl _) _
  have HBW := Lib.hid (show ∀ W, Below A.heap.size A W → Below w.heap.size w W from fun W h => hBA.trans (h.mono hBA.size))
  have hlt : w.heap.size < A.heap.size := by rw [hA]; simp
  have k : ∀ o, A.cell? ⟨w.heap.size, o, none⟩ = (#[.int .i64 nx, .int .i64 ny, .int .i64 cell, .int .i64 slot, .int .i64 slots, .int .i64 layers, .int .i64 most, .slice sa sl sc, .slice ca cl cc] : Array Value)[o]? := fun o => cellHB (by rw [hA]; exact World.alloc_heap_new w _) o
  have KK := Lib.hid (show ∀ W, Below A.heap.size A W → W.cell? ⟨w.heap.size, 0, none⟩ = some (.int .i64 nx) ∧ W.cell? ⟨w.heap.size, 1, none⟩ = some (.int .i64 ny) ∧ W.cell? ⟨w.heap.size, 2, none⟩ = some (.int .i64 cell) ∧ W.cell? ⟨w.heap.size, 3, none⟩ = some (.int .i64 slot) ∧ W.cell? ⟨w.heap.size, 4, none⟩ = some (.int .i64 slots) ∧ W.cell? ⟨w.heap.size, 5, none⟩ = some (.int .i64 layers) ∧ W.cell? ⟨w.heap.size, 6, none⟩ = some (.int .i64 most) ∧ W.cell? ⟨w.heap.size, 7, none⟩ = some (.slice sa sl sc) ∧ W.cell? ⟨w.heap.size, 8, none⟩ = some (.slice ca cl cc) from fun W h => ⟨(h.cell (p := ⟨w.heap.size, 0, none⟩) hlt).trans (k 0), (h.cell (p := ⟨w.heap.size, 1, none⟩) hlt).trans (k 1), (h.cell (p := ⟨w.heap.size, 2, none⟩) hlt).trans (k 2), (h.cell (p := ⟨w.heap.size, 3, none⟩) hlt).trans (k 3), (h.cell (p := ⟨w.heap.size, 4, none⟩) hlt).trans (k 4), (h.cell (p := ⟨w.heap.size, 5, none⟩) hlt).trans (k 5), (h.cell (p := ⟨w.heap.size, 6, none⟩) hlt).trans (k 6), (h.cell (p := ⟨w.heap.size, 7, none⟩) hlt).trans (k 7), (h.cell (p := ⟨w.heap.size, 8, none⟩) hlt).trans (k 8)⟩)
  clear hlt k hBA
  obtain ⟨k0, k1, k2, k3, k4, k5, k6, k7, k8⟩ := KK.out _ (Below.refl _ _)
  go_enter Try.func14, Try.ntmps14
  go_upto_region 1 with fail
  rw [← hA]
  clear hA
  go_wp2_with fail
  refine (c19.out _ (HBW.out _ (Below.refl _ _))).mono ?_
  rintro e w1 ⟨rfl, hb⟩
  have HB1 := Lib.hid hb
  clear hb k0 k1 k2 k3 k4 k5 k6 k7 k8 c19
  go_wp2_with fail
  refine (c40.out _ (HBW.out _ HB1.out)).mono ?_
  rintro e w2 ⟨rfl, hb⟩
  have HB2 := Lib.hid (HB1.out.trans (hb.mono HB1.out.size))
  clear hb c40
  go_wp2_with fail
  refine (c18.out _ _ (fun k hk => by
    rw [cellHB (World.alloc_heap_new w2 _) _]
    match k, hk with
    | 0, _ => rfl
    | 1, _ => rfl)).mono ?_
  rintro e w3 ⟨rfl, hw⟩
  have HB3 := Lib.hid (show Below A.heap.size A w3 by rw [hw]; exact HB2.out.alloc HB2.out.size _)
  clear hw c18
  by_cases hz : E = 0
  rotate_left
  · have hne : (E != 0) = true := by simpa using hz
    have HE := Lib.hid hz
    clear hz
    go_wp2_with fail
    exact (HVR.out _ _).2 ⟨.slice none 0 0, rfl, fun _ => rfl, fun h => absurd h HE.out, HBW.out _ HB3.out⟩
  subst hz
  obtain ⟨hnx, hny, hce⟩ := HSQ.out (HSP.out (by trivial))
  obtain ⟨hr8, -⟩ := HRP.out (by trivial)
  have hNb := mul_bd hnx hny
  obtain ⟨n, hn⟩ : ∃ n : Nat, nx * ny = (n : Int) := ⟨(nx * ny).toNat, by omega⟩
  rw [hn] at hNb
  have hw1 : wrap64 (nx * ny) = (n : Int) := by rw [hn]; unfold wrap64; omega
  have HN := Lib.hid hn
  clear hn
  obtain ⟨k0, k1, k2, k3, k4, k5, k6, k7, k8⟩ := KK.out _ HB3.out
  go_upto_region 5 with fail
  obtain ⟨V, hV⟩ : ∃ V, V = w3.alloc (.cells #[.int .i64 nx, .int .i64 ny, .int .i64 cell, .int .i64 slot, .int .i64 slots, .int .i64 layers, .int .i64 most, .slice sa sl sc, .slice ca cl cc, .int .i64 0, .int .i64 0, .int .i64 0, .int .i64 0, .int .i64 0, .int .i64 0, .int .i64 0] 64) := ⟨_, rfl⟩
  try rw [← hV]
  have HVB := Lib.hid (show Below A.heap.size A V by rw [hV]; exact HB3.out.alloc HB3.out.size _)
  have k : ∀ o, V.cell? ⟨w3.heap.size, o, none⟩ = (#[.int .i64 nx, .int .i64 ny, .int .i64 cell, .int .i64 slot, .int .i64 slots, .int .i64 layers, .int .i64 most, .slice sa sl sc, .slice ca cl cc, .int .i64 0, .int .i64 0, .int .i64 0, .int .i64 0, .int .i64 0, .int .i64 0, .int .i64 0] : Array Value)[o]? := fun o => cellHB (by rw [hV]; exact World.alloc_heap_new w3 _) o
  have hlt7 : w3.heap.size < V.heap.size := by rw [hV]; simp
  clear hV k0 k1 k2 k3 k4 k5 k6 k7 k8
  generalize w3.heap.size = B7 at *
  have KT := Lib.hid (show ∀ W, Below V.heap.size V W → W.cell? ⟨B7, 0, none⟩ = some (.int .i64 nx) ∧ W.cell? ⟨B7, 1, none⟩ = some (.int .i64 ny) ∧ W.cell? ⟨B7, 2, none⟩ = some (.int .i64 cell) ∧ W.cell? ⟨B7, 3, none⟩ = some (.int .i64 slot) ∧ W.cell? ⟨B7, 4, none⟩ = some (.int .i64 slots) ∧ W.cell? ⟨B7, 5, none⟩ = some (.int .i64 layers) ∧ W.cell? ⟨B7, 6, none⟩ = some (.int .i64 most) ∧ W.cell? ⟨B7, 7, none⟩ = some (.slice sa sl sc) ∧ W.cell? ⟨B7, 8, none⟩ = some (.slice ca cl cc) ∧ W.cell? ⟨B7, 9, none⟩ = some (.int .i64 0) ∧ W.cell? ⟨B7, 10, none⟩ = some (.int .i64 0) ∧ W.cell? ⟨B7, 11, none⟩ = some (.int .i64 0) ∧ W.cell? ⟨B7, 12, none⟩ = some (.int .i64 0) ∧ W.cell? ⟨B7, 13, none⟩ = some (.int .i64 0) ∧ W.cell? ⟨B7, 14, none⟩ = some (.int .i64 0) ∧ W.cell? ⟨B7, 15, none⟩ = some (.int .i64 0) from fun W h => ⟨(h.cell (p := ⟨B7, 0, none⟩) hlt7).trans (k 0), (h.cell (p := ⟨B7, 1, none⟩) hlt7).trans (k 1), (h.cell (p := ⟨B7, 2, none⟩) hlt7).trans (k 2), (h.cell (p := ⟨B7, 3, none⟩) hlt7).trans (k 3), (h.cell (p := ⟨B7, 4, none⟩) hlt7).trans (k 4), (h.cell (p := ⟨B7, 5, none⟩) hlt7).trans (k 5), (h.cell (p := ⟨B7, 6, none⟩) hlt7).trans (k 6), (h.cell (p := ⟨B7, 7, none⟩) hlt7).trans (k 7), (h.cell (p := ⟨B7, 8, none⟩) hlt7).trans (k 8), (h.cell (p := ⟨B7, 9, none⟩) hlt7).trans (k 9), (h.cell (p := ⟨B7, 10, none⟩) hlt7).trans (k 10), (h.cell (p := ⟨B7, 11, none⟩) hlt7).trans (k 11), (h.cell (p := ⟨B7, 12, none⟩) hlt7).trans (k 12), (h.cell (p := ⟨B7, 13, none⟩) hlt7).trans (k 13), (h.cell (p := ⟨B7, 14, none⟩) hlt7).trans (k 14), (h.cell (p := ⟨B7, 15, none⟩) hlt7).trans (k 15)⟩)
  have HBV := Lib.hid (show ∀ W, Below V.heap.size V W → Below w.heap.size w W from fun W h => HBW.out _ (HVB.out.trans (h.mono HVB.out.size)))
  clear k hlt7
  obtain ⟨k0, k1, k2, k3, k4, k5, k6, k7, k8⟩ := KK.out _ HVB.out
  go_wp2_with fail
  simp only [hw1]
  clear hw1 k0 k1 k2 k3 k4 k5 k6 k7 k8
  go_loopw [8, 26] (fun v i wr => ∃ k : Nat, k ≤ n ∧ i = .int .i64 k ∧ wr.ownsRow V.heap.size 46 1 v (T k).length (numv (T k)) ∧ Below V.heap.size V wr) (fun _ i _ => n - (intOf i).toNat)
  case atStart => exact ⟨0, Nat.zero_le _, rfl, by rw [HT0.out]; exact World.ownsRow_nil _ _ _ _, Below.refl _ _⟩
  case round =>
    obtain ⟨k, hk, rfl, hrow, hB⟩ := hrel
    have HB := Lib.hid hB
    have HRow := Lib.hid hrow
    have hsz := hB.size
    obtain ⟨t0, t1, t2, t3, t4, t5, t6, t7, t8, t9, t10, t11, t12, t13, t14, t15⟩ := KT.out _ hB
    clear hrow hB
    by_cases hlt : k < n
    · have hki : (k : Int) < (n : Int) := by omega
      have hc := cell_any nx ny cell slot slots layers most 0 0 0 0 0 0 0 sa ca sl sc cl cc k hnx hce (by omega)
      have hd := c41.out (by trivial) (cellQ nx cell k)
      have ht := HTS.out k
      have hl := HTL.out k
      generalize cellQ nx cell k = y at *
      have HT := Lib.hid ht
      clear ht
      generalize VV y = iv at *
      generalize y.a = ya at *
      generalize y.b = yb at *
      generalize y.c = yc at *
      generalize y.d = yd at *
      generalize hnl : numv (T k) = nl at *
      have HNL := Lib.hid hnl
      generalize htl : (T k).length = tl at *
      have HTLk := Lib.hid htl
      clear hnl htl
      go_wp2_with fail
      refine (hc _).mono ?_
      rintro e w5 ⟨rfl, hb5⟩
      have HB5 := Lib.hid (HB.out.trans (hb5.mono HB.out.size))
      have HRow5 := Lib.hid (own_below HRow.out hb5)
      clear hb5 hc t0 t1 t2 t3 t4 t5 t6 t7 t8 t9 t10 t11 t12 t13 t14 t15
      go_wp2_with fail
      refine (hd _ (HBV.out _ HB5.out)).mono ?_
      rintro e w6 ⟨rfl, hb6⟩
      have HB6 := Lib.hid (HB5.out.trans (hb6.mono HB5.out.size))
      have HRow6 := Lib.hid (own_below HRow5.out hb6)
      have hs6 := HB6.out.size
      clear hb6 hd
      go_wp2_with (at_builtin; refine wpList_append_own _ rfl _ _ 49 rfl V.heap.size 46 i0 (.int .i64 0) 1 8 Try.underlying49 hi0 hz0 hz1 hz2 rfl (by decide) _ _ _ rfl (HRow6.out.alloc _) ⟨w6.heap.size, 0, none⟩ 1 1 [.int .i64 iv] rfl rfl (one_newA _ _) (by simp [Value.oneCell']) (by unfold maxLen; omega) (by omega) (by simp; omega) ?_; intro v' w7 hrow' hgrow _)
      have hB7 : Below V.heap.size V w7 := (HB6.out.alloc hs6 _).grown hgrow (by simp; omega) (fun j hj => (HRow6.out.lt j hj).1)
      go_roundw
      case rel => exact ⟨k + 1, by omega, by go_num, by rw [HT.out, numv_snoc, HNL.out, List.length_append, HTLk.out]; exact hrow', hB7⟩
      case measure => simp [intOf]; omega
    · obtain rfl : k = n := by omega
      have hsl := sla_of_owns (by have := HTL.out k; omega) HRow.out
      have HSL := Lib.hid hsl
      obtain ⟨a1, c1, rfl⟩ := own_form HRow.out
      clear hsl t0 t1 t2 t3 t4 t5 t6 t7 t8 t9 t10 t11 t12 t13 t14 t15
      generalize (T k).length = tl at *
      go_wp2_with fail
      exact (HVR.out _ _).2 ⟨.slice a1 tl c1, rfl, fun h => absurd rfl h, fun _ => ⟨k, HN.out, HSL.out⟩, HBV.out _ HB.out⟩
end Go.Proofs.Ythegcbpmammokaa

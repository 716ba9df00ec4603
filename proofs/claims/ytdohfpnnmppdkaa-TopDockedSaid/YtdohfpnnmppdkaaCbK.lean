/-
  Cables: lists of numbers; breakers that are stuck.
-/
import Derived.Test.YtdohfpnnmppdkaaCbC
namespace Go.Proofs.Ytdohfpnnmppdkaa
open Go.RowKit Go.Shelf
set_option linter.unusedSimpArgs false
def ti (zs : List Int) (k : Nat) : Int := zs[k]?.getD 0
theorem ti_mem {zs : List Int} {k : Nat} (hk : k < zs.length) : ti zs k ∈ zs := by
  unfold ti
  rw [List.getElem?_eq_getElem hk]
  exact List.getElem_mem hk
theorem mem_ti {zs : List Int} {z : Int} (h : z ∈ zs) : ∃ k, k < zs.length ∧ ti zs k = z := by
  obtain ⟨k, hk, e⟩ := List.mem_iff_getElem.1 h
  exact ⟨k, hk, by unfold ti; rw [List.getElem?_eq_getElem hk]; exact e⟩
/-- a slice of numbers in memory -/
def Il (n₀ : Nat) (W : World) (v : Value) (zs : List Int) : Prop :=
  ∃ a cap, v = .slice a zs.length cap ∧ zs.length ≤ cap ∧ ∀ k, k < zs.length → ∃ b off, a = some ⟨b, off, none⟩ ∧ b < n₀ ∧ W.cell? ⟨b, off + k, none⟩ = some (.int .i64 (ti zs k))
theorem Il.mono {n₀ m : Nat} {W W' : World} {v : Value} {zs : List Int} (h : Il n₀ W v zs) (hb : Below n₀ W W') (hm : n₀ ≤ m) : Il m W' v zs := by
  obtain ⟨a, cap, e, hl, hc⟩ := h
  exact ⟨a, cap, e, hl, fun k hk => by obtain ⟨b, off, h1, h2, h3⟩ := hc k hk; exact ⟨b, off, h1, Nat.lt_of_lt_of_le h2 hm, (hb.cell (p := ⟨b, _, none⟩) h2).trans h3⟩⟩
theorem Il.at {W W' : World} {v : Value} {zs : List Int} (h : Il W.heap.size W v zs) (hb : Below W.heap.size W W') : Il W'.heap.size W' v zs := h.mono hb hb.size
theorem Il.form {n₀ : Nat} {W : World} {v : Value} {zs : List Int} (h : Il n₀ W v zs) : ∃ a c, v = .slice a zs.length c := by
  obtain ⟨a, c, rfl, -, -⟩ := h
  exact ⟨a, c, rfl⟩
def IdxP (zs : List Int) (z : Int) (w : World) (e : Ending) (w' : World) : Prop := ∃ r : Int, e = .returned (.int .i64 r) ∧ (0 ≤ r ↔ z ∈ zs) ∧ -1 ≤ r ∧ w' = w
set_option maxHeartbeats 2000000 in
theorem index_any (v : Value) (zs : List Int) (z : Int) (hl : zs.length ≤ 1000) (w : World) (hI : Il w.heap.size w v zs) : Calls Try.prog 191 #[v, .int .i64 z] w (IdxP zs z w) := by
  obtain ⟨a, cap, rfl, -, hc⟩ := hI
  have HC := Lib.hid hc
  have HY := Lib.hid (show ∀ k, k < zs.length → ti zs k = z → z ∈ zs from fun k hk e => e ▸ ti_mem hk)
  have HN := Lib.hid (show (∀ k, k < zs.length → ti zs k ≠ z) → ¬ z ∈ zs from fun h hz => by obtain ⟨k, hk, e⟩ := mem_ti hz; exact h k hk e)
  unfold IdxP
  generalize (z ∈ zs) = M at *
  generalize hn : zs.length = n at *
  clear hc hn
  go_enter Try.func191, Try.ntmps191
  go_wp2_with fail
  go_loop [5, 8] (fun (_ : Value) iv => ∃ k : Nat, k ≤ n ∧ iv = .int .i64 k ∧ (∀ j, j < k → ti zs j ≠ z)) (fun _ iv => n - (intOf iv).toNat)
  case atStart => exact ⟨0, Nat.zero_le _, rfl, fun j hj => absurd hj (Nat.not_lt_zero _)⟩
  case round =>
    obtain ⟨k, hk, rfl, hv⟩ := hrel
    have HV := Lib.hid hv
    clear hv
    by_cases hlt : k < n
    · obtain ⟨b, off, rfl, hb, c0⟩ := HC.out k hlt
      have hki : (k : Int) < (n : Int) := by omega
      by_cases he : ti zs k = z
      · have HM := Lib.hid (HY.out k hlt he)
        have heq : (z == ti zs k) = true := by rw [he]; simp
        generalize ti zs k = t at *
        clear he
        go_wp2_with fail
        go_ret
        exact ⟨_, rfl, ⟨fun _ => HM.out, fun _ => by omega⟩, by omega, rfl⟩
      · have heq : (z == ti zs k) = false := by simp; exact fun h => he h.symm
        have HX := Lib.hid (show ∀ j, j < k + 1 → ti zs j ≠ z from fun j hj => by
          rcases (show j < k ∨ j = k by omega) with h | h
          · exact HV.out j h
          · rw [h]; exact he)
        generalize ti zs k = t at *
        clear he
        go_wp2_with fail
        go_round
        case rel => exact ⟨k + 1, by omega, by go_num, HX.out⟩
        case measure => simp [intOf]; omega
    · obtain rfl : k = n := by omega
      have HM := Lib.hid (HN.out HV.out)
      go_wp2_with fail
      go_ret
      exact ⟨-1, rfl, ⟨fun h => absurd h (by decide), fun h => absurd h HM.out⟩, by decide, rfl⟩
theorem contains_any (v : Value) (zs : List Int) (z : Int) (hl : zs.length ≤ 1000) (w : World) (hI : Il w.heap.size w v zs) : Calls Try.prog 157 #[v, .int .i64 z] w fun e w' => e = .returned (.bool (decide (z ∈ zs))) ∧ w' = w := by
  have c := index_any v zs z hl w hI
  obtain ⟨a, cap, rfl⟩ := hI.form
  unfold IdxP at c
  clear hI
  generalize hM : decide (z ∈ zs) = M at *
  have HM := Lib.hid hM
  clear hM
  go_enter Try.func157, Try.ntmps157
  go_wp2_with fail
  refine c.mono ?_
  rintro e w1 ⟨r, rfl, h1, h2, rfl⟩
  have h1' : decide (0 ≤ r) = M := by rw [← HM.out, decide_eq_decide]; exact h1
  clear h1
  by_cases hr : 0 ≤ r
  · rw [decide_eq_true hr] at h1'
    subst h1'
    go_wp2_with fail
    go_ret
    first | exact ⟨rfl, rfl⟩ | simp [*]
  · rw [decide_eq_false hr] at h1'
    subst h1'
    go_wp2_with fail
    go_ret
    first | exact ⟨rfl, rfl⟩ | simp [*]
set_option maxHeartbeats 1000000 in
theorem isSegment_any (sl sh : Int) (a : Option Addr) (n cap : Nat) (hn : n ≤ 1000) (k : Int) (w : World) :
    Calls Try.prog 99 #[.agg #[.int .i64 sl, .int .i64 sh, .slice a n cap], .int .i64 k] w fun e w' => e = .returned (.bool (decide (0 < k ∧ k < n))) ∧ Below w.heap.size w w' := by
  have c1 := fun W => isNode_any sl sh a n cap hn k W
  by_cases h1 : 0 ≤ k ∧ k < n
  · rw [decide_eq_true h1] at c1
    by_cases h0 : k = 0
    · subst h0
      rw [decide_eq_false (by omega)]
      clear h1
      obtain ⟨A, hA⟩ : ∃ A, A = w.alloc (.cells #[.int .i64 sl, .int .i64 sh, .slice a n cap] 26) := ⟨_, rfl⟩
      have HBA := Lib.hid (show Below w.heap.size w A by rw [hA]; exact ((Below.refl _ _).alloc (Nat.le_refl _) _))
      have hltA : w.heap.size + 1 ≤ A.heap.size := by rw [hA]; simp
      have q0 : A.cell? ⟨w.heap.size, 0, none⟩ = some (.int .i64 sl) := by rw [hA]; exact (cellHB (World.alloc_heap_new w _) 0).trans (by simp)
      have q1 : A.cell? ⟨w.heap.size, 1, none⟩ = some (.int .i64 sh) := by rw [hA]; exact (cellHB (World.alloc_heap_new w _) 1).trans (by simp)
      have q2 : A.cell? ⟨w.heap.size, 2, none⟩ = some (.slice a n cap) := by rw [hA]; exact (cellHB (World.alloc_heap_new w _) 2).trans (by simp)
      have KK := Lib.hid (show ∀ W, Below A.heap.size A W → W.cell? ⟨w.heap.size, 0, none⟩ = some (.int .i64 sl) ∧ W.cell? ⟨w.heap.size, 1, none⟩ = some (.int .i64 sh) ∧ W.cell? ⟨w.heap.size, 2, none⟩ = some (.slice a n cap) from fun W h => ⟨(h.cell (p := ⟨w.heap.size, 0, none⟩) (by show w.heap.size < A.heap.size; omega)).trans q0, (h.cell (p := ⟨w.heap.size, 1, none⟩) (by show w.heap.size < A.heap.size; omega)).trans q1, (h.cell (p := ⟨w.heap.size, 2, none⟩) (by show w.heap.size < A.heap.size; omega)).trans q2⟩)
      have HLT := Lib.hid hltA
      clear hltA q0 q1 q2
      obtain ⟨k0, k1, k2⟩ := KK.out _ (Below.refl _ _)
      go_enter Try.func99, Try.ntmps99
      go_upto_region 1 with fail
      rw [← hA]
      clear hA
      go_wp2_with fail
      refine (c1 _).mono ?_
      rintro e w1 ⟨rfl, hb⟩
      have HB1 := Lib.hid hb
      clear hb k0 k1 k2
      obtain ⟨k0, k1, k2⟩ := KK.out _ HB1.out
      go_wp2_with fail
      go_ret
      exact ⟨by first | rfl | simp, HBA.out.trans (HB1.out.mono HBA.out.size)⟩
    · rw [decide_eq_true (show 0 < k ∧ k < n by omega)]
      have h0' : (k == 0) = false := by simpa using h0
      clear h1
      obtain ⟨A, hA⟩ : ∃ A, A = w.alloc (.cells #[.int .i64 sl, .int .i64 sh, .slice a n cap] 26) := ⟨_, rfl⟩
      have HBA := Lib.hid (show Below w.heap.size w A by rw [hA]; exact ((Below.refl _ _).alloc (Nat.le_refl _) _))
      have hltA : w.heap.size + 1 ≤ A.heap.size := by rw [hA]; simp
      have q0 : A.cell? ⟨w.heap.size, 0, none⟩ = some (.int .i64 sl) := by rw [hA]; exact (cellHB (World.alloc_heap_new w _) 0).trans (by simp)
      have q1 : A.cell? ⟨w.heap.size, 1, none⟩ = some (.int .i64 sh) := by rw [hA]; exact (cellHB (World.alloc_heap_new w _) 1).trans (by simp)
      have q2 : A.cell? ⟨w.heap.size, 2, none⟩ = some (.slice a n cap) := by rw [hA]; exact (cellHB (World.alloc_heap_new w _) 2).trans (by simp)
      have KK := Lib.hid (show ∀ W, Below A.heap.size A W → W.cell? ⟨w.heap.size, 0, none⟩ = some (.int .i64 sl) ∧ W.cell? ⟨w.heap.size, 1, none⟩ = some (.int .i64 sh) ∧ W.cell? ⟨w.heap.size, 2, none⟩ = some (.slice a n cap) from fun W h => ⟨(h.cell (p := ⟨w.heap.size, 0, none⟩) (by show w.heap.size < A.heap.size; omega)).trans q0, (h.cell (p := ⟨w.heap.size, 1, none⟩) (by show w.heap.size < A.heap.size; omega)).trans q1, (h.cell (p := ⟨w.heap.size, 2, none⟩) (by show w.heap.size < A.heap.size; omega)).trans q2⟩)
      have HLT := Lib.hid hltA
      clear hltA q0 q1 q2
      obtain ⟨k0, k1, k2⟩ := KK.out _ (Below.refl _ _)
      go_enter Try.func99, Try.ntmps99
      go_upto_region 1 with fail
      rw [← hA]
      clear hA
      go_wp2_with fail
      refine (c1 _).mono ?_
      rintro e w1 ⟨rfl, hb⟩
      have HB1 := Lib.hid hb
      clear hb k0 k1 k2
      obtain ⟨k0, k1, k2⟩ := KK.out _ HB1.out
      go_wp2_with fail
      go_ret
      exact ⟨by first | rfl | simp [*], HBA.out.trans (HB1.out.mono HBA.out.size)⟩
  · rw [decide_eq_false h1] at c1
    rw [decide_eq_false (show ¬ (0 < k ∧ k < n) by omega)]
    clear h1
    obtain ⟨A, hA⟩ : ∃ A, A = w.alloc (.cells #[.int .i64 sl, .int .i64 sh, .slice a n cap] 26) := ⟨_, rfl⟩
    have HBA := Lib.hid (show Below w.heap.size w A by rw [hA]; exact ((Below.refl _ _).alloc (Nat.le_refl _) _))
    have hltA : w.heap.size + 1 ≤ A.heap.size := by rw [hA]; simp
    have q0 : A.cell? ⟨w.heap.size, 0, none⟩ = some (.int .i64 sl) := by rw [hA]; exact (cellHB (World.alloc_heap_new w _) 0).trans (by simp)
    have q1 : A.cell? ⟨w.heap.size, 1, none⟩ = some (.int .i64 sh) := by rw [hA]; exact (cellHB (World.alloc_heap_new w _) 1).trans (by simp)
    have q2 : A.cell? ⟨w.heap.size, 2, none⟩ = some (.slice a n cap) := by rw [hA]; exact (cellHB (World.alloc_heap_new w _) 2).trans (by simp)
    have KK := Lib.hid (show ∀ W, Below A.heap.size A W → W.cell? ⟨w.heap.size, 0, none⟩ = some (.int .i64 sl) ∧ W.cell? ⟨w.heap.size, 1, none⟩ = some (.int .i64 sh) ∧ W.cell? ⟨w.heap.size, 2, none⟩ = some (.slice a n cap) from fun W h => ⟨(h.cell (p := ⟨w.heap.size, 0, none⟩) (by show w.heap.size < A.heap.size; omega)).trans q0, (h.cell (p := ⟨w.heap.size, 1, none⟩) (by show w.heap.size < A.heap.size; omega)).trans q1, (h.cell (p := ⟨w.heap.size, 2, none⟩) (by show w.heap.size < A.heap.size; omega)).trans q2⟩)
    have HLT := Lib.hid hltA
    clear hltA q0 q1 q2
    obtain ⟨k0, k1, k2⟩ := KK.out _ (Below.refl _ _)
    go_enter Try.func99, Try.ntmps99
    go_upto_region 1 with fail
    rw [← hA]
    clear hA
    go_wp2_with fail
    refine (c1 _).mono ?_
    rintro e w1 ⟨rfl, hb⟩
    have HB1 := Lib.hid hb
    clear hb k0 k1 k2
    obtain ⟨k0, k1, k2⟩ := KK.out _ HB1.out
    go_wp2_with fail
    go_ret
    exact ⟨by first | rfl | simp [*], HBA.out.trans (HB1.out.mono HBA.out.size)⟩
/-- a node with a breaker -/
def brk (ns : List Nd) (k : Nat) : Bool := (nd ns k).del != -1
def okS (ns : List Nd) (z : Int) : Bool := decide (0 ≤ z ∧ z < ns.length) && brk ns z.toNat
open Classical in
/-- the error of a cable and of breakers that are stuck -/
noncomputable def stuE (sl sh : Int) (ns : List Nd) (zs : List Int) : Int :=
  if cabE sl sh ns = 0 then (if 16 < zs.length then 6 else if ∀ k, k < zs.length → okS ns (ti zs k) = true then 0 else 2) else cabE sl sh ns
open Classical in
theorem stuE_def (sl sh : Int) (ns : List Nd) (zs : List Int) : stuE sl sh ns zs = (if cabE sl sh ns = 0 then (if 16 < zs.length then 6 else if ∀ k, k < zs.length → okS ns (ti zs k) = true then 0 else 2) else cabE sl sh ns) := rfl
theorem stuE_ok {sl sh : Int} {ns : List Nd} {zs : List Int} (h : stuE sl sh ns zs = 0) : ValidC sl sh ns ∧ zs.length ≤ 16 ∧ ∀ k, k < zs.length → okS ns (ti zs k) = true := by
  rw [stuE_def] at h
  split at h
  · split at h
    · omega
    · split at h
      · exact ⟨cabE_ok (by assumption), by omega, by assumption⟩
      · omega
  · exact absurd h (by assumption)
set_option maxRecDepth 100000 in
set_option maxHeartbeats 4000000 in
theorem checkStuck_any (sl sh : Int) (sv zv : Value) (ns : List Nd) (zs : List Int) (w : World) (hN : Nds w.heap.size w sv ns) (hZ : Il w.heap.size w zv zs) (hl : zs.length ≤ 1000) :
    Calls Try.prog 98 #[.agg #[.int .i64 sl, .int .i64 sh, sv], zv] w fun e w' => e = .returned (.int .i64 (stuE sl sh ns zs)) ∧ Below w.heap.size w w' := by
  have c1 := Lib.hid (fun W (h : Below w.heap.size w W) => check25 sl sh sv ns W (hN.at h))
  have HCC := Lib.hid (cabE_cases sl sh ns)
  obtain ⟨a, cap, rfl, -, hcc⟩ := hN
  obtain ⟨az, capz, rfl, -, hcz⟩ := hZ
  have HC := Lib.hid (show ∀ W k, Below w.heap.size w W → k < ns.length → ∃ b off, a = some ⟨b, off, none⟩ ∧ b < w.heap.size ∧ W.cell? ⟨b, off + k * 8, none⟩ = some (.int .i64 (nd ns k).par) ∧ W.cell? ⟨b, off + k * 8 + 1, none⟩ = some (.int .i64 (nd ns k).ol) ∧ W.cell? ⟨b, off + k * 8 + 2, none⟩ = some (.int .i64 (nd ns k).oh) ∧ W.cell? ⟨b, off + k * 8 + 3, none⟩ = some (.int .i64 (nd ns k).lim) ∧ W.cell? ⟨b, off + k * 8 + 4, none⟩ = some (.int .i64 (nd ns k).ll) ∧ W.cell? ⟨b, off + k * 8 + 5, none⟩ = some (.int .i64 (nd ns k).lh) ∧ W.cell? ⟨b, off + k * 8 + 6, none⟩ = some (.int .i64 (nd ns k).lea) ∧ W.cell? ⟨b, off + k * 8 + 7, none⟩ = some (.int .i64 (nd ns k).del) from fun W k hb hk => by
    obtain ⟨b, off, h1, h2, e0, e1, e2, e3, e4, e5, e6, e7⟩ := hcc k hk
    exact ⟨b, off, h1, h2, (hb.cell (p := ⟨b, _, none⟩) h2).trans e0, (hb.cell (p := ⟨b, _, none⟩) h2).trans e1, (hb.cell (p := ⟨b, _, none⟩) h2).trans e2, (hb.cell (p := ⟨b, _, none⟩) h2).trans e3, (hb.cell (p := ⟨b, _, none⟩) h2).trans e4, (hb.cell (p := ⟨b, _, none⟩) h2).trans e5, (hb.cell (p := ⟨b, _, none⟩) h2).trans e6, (hb.cell (p := ⟨b, _, none⟩) h2).trans e7⟩)
  have HZ := Lib.hid (show ∀ W k, Below w.heap.size w W → k < zs.length → ∃ b off, az = some ⟨b, off, none⟩ ∧ b < w.heap.size ∧ W.cell? ⟨b, off + k, none⟩ = some (.int .i64 (ti zs k)) from fun W k hb hk => by
    obtain ⟨b, off, h1, h2, e0⟩ := hcz k hk
    exact ⟨b, off, h1, h2, (hb.cell (p := ⟨b, _, none⟩) h2).trans e0⟩)
  have HE := Lib.hid (stuE_def sl sh ns zs)
  have HOK := Lib.hid (show ∀ z, okS ns z = (decide (0 ≤ z ∧ z < ns.length) && brk ns z.toNat) from fun _ => rfl)
  have HBK := Lib.hid (show ∀ k, brk ns k = ((nd ns k).del != -1) from fun _ => rfl)
  clear hcc hcz
  generalize stuE sl sh ns zs = R at *
  generalize cabE sl sh ns = E at *
  generalize hm : zs.length = m at *
  clear hm
  obtain ⟨A, hA⟩ : ∃ A, A = w.alloc (.cells #[.int .i64 sl, .int .i64 sh, .slice a ns.length cap] 26) := ⟨_, rfl⟩
  have HBA := Lib.hid (show Below w.heap.size w A by rw [hA]; exact ((Below.refl _ _).alloc (Nat.le_refl _) _))
  have hltA : w.heap.size + 1 ≤ A.heap.size := by rw [hA]; simp
  have q0 : A.cell? ⟨w.heap.size, 0, none⟩ = some (.int .i64 sl) := by rw [hA]; exact (cellHB (World.alloc_heap_new w _) 0).trans (by simp)
  have q1 : A.cell? ⟨w.heap.size, 1, none⟩ = some (.int .i64 sh) := by rw [hA]; exact (cellHB (World.alloc_heap_new w _) 1).trans (by simp)
  have q2 : A.cell? ⟨w.heap.size, 2, none⟩ = some (.slice a ns.length cap) := by rw [hA]; exact (cellHB (World.alloc_heap_new w _) 2).trans (by simp)
  have KK := Lib.hid (show ∀ W, Below A.heap.size A W → W.cell? ⟨w.heap.size, 0, none⟩ = some (.int .i64 sl) ∧ W.cell? ⟨w.heap.size, 1, none⟩ = some (.int .i64 sh) ∧ W.cell? ⟨w.heap.size, 2, none⟩ = some (.slice a ns.length cap) from fun W h => ⟨(h.cell (p := ⟨w.heap.size, 0, none⟩) (by show w.heap.size < A.heap.size; omega)).trans q0, (h.cell (p := ⟨w.heap.size, 1, none⟩) (by show w.heap.size < A.heap.size; omega)).trans q1, (h.cell (p := ⟨w.heap.size, 2, none⟩) (by show w.heap.size < A.heap.size; omega)).trans q2⟩)
  have HLT := Lib.hid hltA
  clear hltA q0 q1 q2
  obtain ⟨k0, k1, k2⟩ := KK.out _ (Below.refl _ _)
  by_cases hE : E = 0
  rotate_left
  · have hR := HE.out
    rw [if_neg hE] at hR
    subst hR
    have hE' : (R == 0) = false := by simpa using hE
    clear hE
    go_enter Try.func98, Try.ntmps98
    go_upto_region 1 with fail
    rw [← hA]
    clear hA
    go_wp2_with fail
    refine (c1.out _ HBA.out).mono ?_
    rintro e w1 ⟨rfl, hb⟩
    have HB1 := Lib.hid hb
    clear hb k0 k1 k2
    obtain ⟨k0, k1, k2⟩ := KK.out _ HB1.out
    go_wp2_with fail
    go_ret
    exact ⟨by first | rfl | simp [*], HBA.out.trans (HB1.out.mono HBA.out.size)⟩
  subst hE
  have hn : ns.length ≤ 60 := by
    rcases HCC.out with ⟨h, _⟩ | ⟨h, _⟩ | ⟨_, h⟩
    · exact absurd h (by decide)
    · exact absurd h (by decide)
    · exact h.len
  clear HCC
  have hR := HE.out
  rw [if_pos rfl] at hR
  have HR := Lib.hid hR
  clear hR HE
  generalize ns.length = n at *
  have cn := fun k W => isNode_any sl sh a n cap (by omega) k W
  by_cases hbig : (16 : Int) < (m : Int)
  · have hR := HR.out
    rw [if_pos (by omega)] at hR
    subst hR
    go_enter Try.func98, Try.ntmps98
    go_upto_region 1 with fail
    rw [← hA]
    clear hA
    go_wp2_with fail
    refine (c1.out _ HBA.out).mono ?_
    rintro e w1 ⟨rfl, hb⟩
    have HB1 := Lib.hid hb
    clear hb k0 k1 k2
    obtain ⟨k0, k1, k2⟩ := KK.out _ HB1.out
    go_wp2_with fail
    go_ret
    exact ⟨by first | rfl | simp [*], HBA.out.trans (HB1.out.mono HBA.out.size)⟩
  have hR := HR.out
  rw [if_neg (by omega)] at hR
  have HR2 := Lib.hid hR
  clear hR HR
  go_enter Try.func98, Try.ntmps98
  go_upto_region 1 with fail
  rw [← hA]
  clear hA
  go_wp2_with fail
  refine (c1.out _ HBA.out).mono ?_
  rintro e w1 ⟨rfl, hb⟩
  have HB1 := Lib.hid hb
  clear hb k0 k1 k2
  obtain ⟨k0, k1, k2⟩ := KK.out _ HB1.out
  go_wp2_with fail
  go_loopw [7, 18] (fun (_ : Value) iv wr => ∃ k : Nat, k ≤ m ∧ iv = .int .i64 k ∧ (∀ j, j < k → okS ns (ti zs j) = true) ∧ Below A.heap.size A wr) (fun _ iv _ => m - (intOf iv).toNat)
  case atStart => exact ⟨0, Nat.zero_le _, rfl, fun j hj => absurd hj (Nat.not_lt_zero _), HB1.out⟩
  case round =>
    obtain ⟨k, hk, rfl, hv, hB⟩ := hrel
    have HV := Lib.hid hv
    have HB := Lib.hid hB
    clear hv hB k0 k1 k2
    obtain ⟨k0, k1, k2⟩ := KK.out _ HB.out
    by_cases hlt : k < m
    · have hki : (k : Int) < (m : Int) := by omega
      obtain ⟨b, off, hab, hb, z0⟩ := HZ.out _ k (HBA.out.trans (HB.out.mono HBA.out.size)) hlt
      subst hab
      have HNX := Lib.hid (fun (h1 : okS ns (ti zs k) = true) => show ∀ j, j < k + 1 → okS ns (ti zs j) = true from fun j hj => by
        rcases (show j < k ∨ j = k by omega) with h | h
        · exact HV.out j h
        · rw [h]; exact h1)
      have HNO := Lib.hid (fun (h : okS ns (ti zs k) = false) => show R = 2 by
        rw [HR2.out, if_neg (fun g => by have := g k hlt; rw [h] at this; cases this)])
      have HOKK := Lib.hid (HOK.out (ti zs k))
      generalize okS ns (ti zs k) = OB at *
      generalize ti zs k = z at *
      have c2 := fun W => cn z W
      by_cases hz : 0 ≤ z ∧ z < n
      · rw [decide_eq_true hz] at c2 HOKK
        obtain ⟨zn, rfl⟩ : ∃ zn : Nat, z = zn := ⟨z.toNat, by omega⟩
        have hzn : zn < n := by omega
        have hzi : (zn : Int) < (n : Int) := by omega
        have cb := fun W => hasBreaker_any (nd ns zn).par (nd ns zn).ol (nd ns zn).oh (nd ns zn).lim (nd ns zn).ll (nd ns zn).lh (nd ns zn).lea (nd ns zn).del W
        rw [Bool.true_and, Int.toNat_natCast, HBK.out] at HOKK
        rw [← HOKK.out] at cb
        clear hz HOKK
        have HCZ := Lib.hid (fun W h => HC.out W zn h hzn)
        go_wp2_with fail
        refine (c2 _).mono ?_
        rintro e w2 ⟨rfl, hb2⟩
        have HB2 := Lib.hid (HB.out.trans (hb2.mono HB.out.size))
        clear hb2 k0 k1 k2 z0
        obtain ⟨k0, k1, k2⟩ := KK.out _ HB2.out
        obtain ⟨b2, off2, hab, hbx, n0, n1, n2, n3, n4, n5, n6, n7⟩ := HCZ.out _ (HBA.out.trans (HB2.out.mono HBA.out.size))
        subst hab
        cases OB
        · have hR := HNO.out (by first | rfl | trivial)
          subst hR
          go_wp2_with fail
          refine (cb _).mono ?_
          rintro e w3 ⟨rfl, hb3⟩
          have HB3 := Lib.hid (HB2.out.trans (hb3.mono HB2.out.size))
          clear hb3
          go_wp2_with fail
          go_ret
          exact ⟨rfl, HBA.out.trans (HB3.out.mono HBA.out.size)⟩
        · have HNX2 := Lib.hid (HNX.out (by first | rfl | trivial))
          go_wp2_with fail
          refine (cb _).mono ?_
          rintro e w3 ⟨rfl, hb3⟩
          have HB3 := Lib.hid (HB2.out.trans (hb3.mono HB2.out.size))
          clear hb3 n0 n1 n2 n3 n4 n5 n6 n7 k0 k1 k2
          go_wp2_with fail
          go_roundw
          case rel => exact ⟨k + 1, by omega, by go_num, HNX2.out, HB3.out⟩
          case measure => simp [intOf]; omega
      · rw [decide_eq_false hz] at c2 HOKK
        rw [Bool.false_and] at HOKK
        have hR := HNO.out HOKK.out
        subst hR
        clear hz HOKK
        go_wp2_with fail
        refine (c2 _).mono ?_
        rintro e w2 ⟨rfl, hb2⟩
        have HB2 := Lib.hid (HB.out.trans (hb2.mono HB.out.size))
        clear hb2
        go_wp2_with fail
        go_ret
        exact ⟨rfl, HBA.out.trans (HB2.out.mono HBA.out.size)⟩
    · obtain rfl : k = m := by omega
      have hR := HR2.out
      rw [if_pos HV.out] at hR
      subst hR
      go_wp2_with fail
      go_ret
      exact ⟨rfl, HBA.out.trans (HB.out.mono HBA.out.size)⟩
end Go.Proofs.Ytdohfpnnmppdkaa

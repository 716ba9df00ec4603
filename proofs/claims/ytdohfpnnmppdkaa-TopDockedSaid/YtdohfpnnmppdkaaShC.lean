/-
  Cables: the sort of nodes by their ranks.
-/
import Derived.Test.YtdohfpnnmppdkaaShB
import Derived.Test.YtdohfpnnmppdkaaCbD
import Derived.Test.YtdohfpnnmppdkaaProg
import Derived.Test.YtdohfpnnmppdkaaCbQ
import Derived.Sort.OwnSortedInts
import Derived.Shelf.SlIterI.Nil
import Derived.Shelf.SortM.Plain
import Derived.Shelf.SortM.SortNone
import Derived.Ground.GgzProg
import Derived.Ground.SlgmProg
import Derived.Maps.Own
import Derived.Maps.Views
namespace Go.Proofs.Ytdohfpnnmppdkaa
open Go.RowKit Go.Shelf Go.Lib Go.Sort
set_option linter.unusedSimpArgs false
attribute [local go_sem] Oper.semAt_some
def encF {m : Nat} (x : Fin (m + 1)) : Value := .int .i64 (x.val : Int)
def toI {m : Nat} (d : Array (Fin (m + 1))) : Array Int := d.map fun x => (x.val : Int)
theorem putCells_toI {m : Nat} (d : Array (Fin (m + 1))) (cur : Array Value) : putCells encF 0 d cur = putCells (Value.int .i64) 0 (toI d) cur := by
  unfold putCells toI
  congr 1
  funext k x
  rw [Array.size_map]
  by_cases h : 0 ≤ k ∧ k < 0 + d.size
  · rw [if_pos h, if_pos h]
    have hk : k < d.size := by omega
    simp only [Nat.sub_zero]
    rw [getElem!_pos d k hk, getElem!_pos _ k (by simpa using hk), Array.getElem_map]
    rfl
  · rw [if_neg h, if_neg h]
theorem sortWorld_toI {m : Nat} (w : World) (g n : Nat) (d : Array (Fin (m + 1))) (os : Array Obj) : sortWorld encF w g 0 n d os = grow (putRow (Value.int .i64) (Sort.ahead w n) g 0 (toI d)) os := by
  unfold sortWorld putRow
  rw [show putCells (encF (m := m)) 0 d = putCells (Value.int .i64) 0 (toI d) from funext fun c => putCells_toI d c]
def cfF (rk : Nat → Int) {m : Nat} (x y : Fin (m + 1)) : Int := cf2 (rk x.val) (rk y.val) x.val y.val
theorem lt_cfF (rk : Nat → Int) {m : Nat} (x y : Fin (m + 1)) : ltOf (cfF rk) x y = decide (Ahead rk x.val y.val) := by
  unfold ltOf cfF cf2 Lib.compareInt Ahead
  congr 1
  apply propext
  constructor
  · intro h
    (repeat' split at h) <;> omega
  · intro h
    (repeat' split) <;> omega
theorem swo_cfF (rk : Nat → Int) (m : Nat) : SWO (ltOf (cfF rk (m := m))) where
  irrefl x := by rw [lt_cfF]; simp [Ahead]
  trans x y z h1 h2 := by rw [lt_cfF] at *; simp only [decide_eq_true_eq] at *; exact h1.trans h2
  ntrans x y z h1 h2 := by rw [lt_cfF] at *; simp only [decide_eq_false_iff_not] at *; unfold Ahead at *; omega
theorem anti_cfF (rk : Nat → Int) {m : Nat} (x y : Fin (m + 1)) (h1 : ltOf (cfF rk) x y = false) (h2 : ltOf (cfF rk) y x = false) : x = y := by
  rw [lt_cfF] at *
  simp only [decide_eq_false_iff_not] at *
  unfold Ahead at *
  exact Fin.ext (by omega)
def allF (m : Nat) : List (Fin (m + 1)) := List.ofFn fun i => i
theorem allF_val (m : Nat) : (allF m).map Fin.val = List.range (m + 1) := by
  unfold allF
  apply List.ext_getElem (by simp)
  intro i h1 h2
  simp only [List.getElem_map, List.getElem_ofFn, List.getElem_range]
theorem allF_get (m j : Nat) (h : j < (allF m).length) : (allF m)[j].val = j := by simp only [allF, List.getElem_ofFn]
theorem flatN_range_toI (m : Nat) : (toI (allF m).toArray).toList.map (Value.int .i64) = flatN (List.range (m + 1)) := by
  rw [← allF_val]
  unfold toI flatN
  simp [List.map_map, Function.comp_def]
set_option maxRecDepth 100000 in
set_option maxHeartbeats 8000000 in
/-- nodes sorted by their ranks -/
theorem sortF_any (rk : Nat → Int) (m base : Nat) (F SB R RB RO n c g cap : Nat) (cur : Array Value) (hmn : m + 1 = n) (hn : m < 1000) (w : World) (hbg : base ≤ g) (hg : w.heap[g]? = some (.cells cur 3 (0, 0))) (hc1 : m + 1 ≤ cap) (hc2 : cap ≤ maxLen) (hc3 : cur.size = cap * 1) (hc4 : cur.toList.take (m + 1) = flatN (List.range (m + 1)))
    (hF : F ≠ g) (hSB : SB ≠ g) (cF : w.cell? ⟨F, 0, none⟩ = some (.func (.func 164) #[] #[.pointer (some ⟨R, 0, none⟩)])) (cS : w.cell? ⟨SB, 0, none⟩ = some (.func (.func 165) #[] #[])) (lF : F < w.heap.size) (lS : SB < w.heap.size)
    (KR : ∀ Z, Below base w Z → Z.cell? ⟨R, 0, none⟩ = some (.slice (some ⟨RB, RO, none⟩) n c) ∧ ∀ k, k < n → Z.cell? ⟨RB, RO + k, none⟩ = some (.int .i64 (rk k))) :
    Calls Try.prog 194 #[.slice (some ⟨g, 0, none⟩) (m + 1) cap, .func (.func 195) #[] #[.pointer (some ⟨F, 0, none⟩), .pointer (some ⟨SB, 0, none⟩)]] w fun e w' => ∃ od : List Nat, e = .returned (.tuple #[]) ∧ w'.ownsRow base 3 1 (.slice (some ⟨g, 0, none⟩) (m + 1) cap) (m + 1) (flatN od) ∧ Turn rk (m + 1) od ∧ Below base w w' := by
  have hgl : g < w.heap.size := (Array.getElem?_eq_some_iff.1 hg).1
  have hlen : (allF m).length = m + 1 := by unfold allF; simp
  have eg : ∀ args w, (callFunc 195 args).run Try.prog w = .ok (.enter 195 args) w := enters_of Try.func195 (by kernel_rfl) rfl
  have hH : Holds (encF (m := m)) w g 0 (allF m).toArray := by
    intro j hj
    have hj' : j < m + 1 := by simpa [hlen] using hj
    refine ⟨?_, by simp [World.frozen?, hg]⟩
    have h1 : (cur.toList.take (m + 1))[j]? = (flatN (List.range (m + 1)))[j]? := by rw [hc4]
    rw [List.getElem?_take_of_lt hj'] at h1
    rw [cellHB hg, Nat.zero_add, ← Array.getElem?_toList, h1]
    unfold flatN encF
    rw [getElem!_pos _ j (by simpa [hlen] using hj')]
    rw [List.getElem_toArray, allF_get]
    simp [hj']
  have gB : ∀ (k : Nat) (os : Array Obj) (dk : Array (Fin (m + 1))), w.grownBy (sortWorld encF w g 0 k dk os) (some g) := fun k os dk => by
    rw [sortWorld_toI]
    exact grownBy_sortedI _
  have hcmp : CmpLays1 Try.prog 195 #[.pointer (some ⟨F, 0, none⟩), .pointer (some ⟨SB, 0, none⟩)] (encF (m := m)) (cfF rk) g 0 (allF m).toArray.size w := by
    intro k os dk hs x y
    have q := gB k os dk
    generalize sortWorld encF w g 0 k dk os = W at q ⊢
    have hbW : Below base w W := (Below.refl base w).grown q (by omega) (fun r e => by cases e; exact hbg)
    have hsz : w.heap.size ≤ W.heap.size := hbW.size
    have qF : W.cell? ⟨F, 0, none⟩ = some (.func (.func 164) #[] #[.pointer (some ⟨R, 0, none⟩)]) := by
      have e := q.block F lF (fun e => hF (by cases e; rfl))
      simp only [World.cell?, e]
      exact cF
    have qS : W.cell? ⟨SB, 0, none⟩ = some (.func (.func 165) #[] #[]) := by
      have e := q.block SB lS (fun e => hSB (by cases e; rfl))
      simp only [World.cell?, e]
      exact cS
    exact byTwo_any F SB R RB RO n c x.val y.val (rk x.val) (rk y.val) (by omega) (by omega) W
      (fun Z h => ⟨(h.cell (p := ⟨F, 0, none⟩) (Nat.lt_of_lt_of_le lF hsz)).trans qF, (h.cell (p := ⟨SB, 0, none⟩) (Nat.lt_of_lt_of_le lS hsz)).trans qS⟩)
      (fun Z h => by
        obtain ⟨h1, h2⟩ := KR Z (hbW.trans (h.mono (by omega)))
        exact ⟨h1, h2 _ (by omega), h2 _ (by omega)⟩)
  have h := Any.slices_SortFunc_total Try.sortI (encF (m := m)) (fun x => rfl) (cfF rk) (swo_cfF rk m) 195 #[.pointer (some ⟨F, 0, none⟩), .pointer (some ⟨SB, 0, none⟩)] g 0 cap (allF m).toArray w eg hcmp hH hgl (by simp [hlen]; omega) (anti_cfF rk)
  change Calls Try.prog 194 _ _ _ at h
  rw [List.size_toArray, hlen] at h
  refine h.mono fun e w' h => ?_
  obtain ⟨rfl, k, os, rfl⟩ := h
  have hT := turn_of_merge rk m (allF m) (allF_val m) (ltOf (cfF rk)) (lt_cfF rk)
  have hl2 : ((allF m).mergeSort fun x y => !(ltOf (cfF rk)) y x).length = m + 1 := by simp [hlen]
  have hq := gB k os ((allF m).mergeSort fun x y => !(ltOf (cfF rk)) y x).toArray
  refine ⟨_, rfl, ?_, hT, (Below.refl base w).grown hq (by omega) (fun r e => by cases e; exact hbg)⟩
  rw [sortWorld_toI]
  generalize ((allF m).mergeSort fun x y => !(ltOf (cfF rk)) y x) = D at hl2 ⊢
  have q := ownsRow_sortedI (n := k) (os := os) (ss := (List.range (m + 1)).map fun (x : Nat) => (x : Int)) (ts := D.map fun x => (x.val : Int)) (by simp [hl2]) hbg hg (by simpa using hc1) hc2 hc3
  simp only [List.length_map, List.length_range] at q
  have e1 : (toI D.toArray) = (D.map fun x => (x.val : Int)).toArray := by unfold toI; simp
  rw [e1]
  have e2 : flatN (D.map Fin.val) = (D.map fun x => (x.val : Int)).map (Value.int .i64) := by unfold flatN; simp [List.map_map, Function.comp_def]
  rw [e2]
  exact q
end Go.Proofs.Ytdohfpnnmppdkaa

/-
  Cables: a set of nodes as a map; its keys, sorted.
-/
import Derived.Test.YtdohfpnnmppdkaaCbS
import Derived.Test.YtdohfpnnmppdkaaCbD
import Derived.Maps.Own
import Derived.Maps.Views
namespace Go.Proofs.Ytdohfpnnmppdkaa
open Go.RowKit Go.Shelf
set_option linter.unusedSimpArgs false
open Go.Maps
theorem law3 : Keyed Try.prog 3 := int_keyed Try.underlying3
theorem zero4 (w : World) : (zeroValue 4).run Try.prog w = .ok (.bool false) w := by kernel_rfl
theorem key3 (x : Nat) (hx : x < 60) : keyOf Try.prog 3 (.int .i64 (x : Int)) = some (.int .i64 (x : Int)) := keyOf_int_mk Try.underlying3 (WalkArith.wf_i64 (by omega))
set_option maxRecDepth 100000 in
theorem bool_inv {v : Value} {b : Bool} {ps : List MemPlace} (h : plainElem (H := Unit) Try.prog 4 v = some (.lit (.bool b), ps)) : v = .bool b := by
  unfold plainElem at h
  simp only [Try.underlying4] at h
  cases v <;> simp_all
/-- a map of the call's own holds the numbers below 60 with a property -/
def MapB (W : World) (M : Nat) (S : Nat → Bool) : Prop :=
  ∃ D : DataW Unit, W.ownsMap Try.prog 3 (plainElem Try.prog 4) M 60 D ∧ (∀ z : Int, has D (.int .i64 z) = true ↔ 0 ≤ z ∧ z < 60 ∧ S z.toNat = true) ∧ ∀ z : Int, D.atKey (.int .i64 z) (.lit (.bool false)) = .lit (.bool (has D (.int .i64 z)))
theorem zs_nodup {l : List Nat} (h : l.Nodup) : (zs l).Nodup := List.Pairwise.map _ (by intro a b h; omega) h
theorem pick_nodup (n : Nat) (p : Nat → Bool) : (pick n p).Nodup := (pick_asc n p).imp (by intro a b h; omega)
theorem mem_zs {l : List Nat} {z : Int} : z ∈ zs l ↔ 0 ≤ z ∧ z.toNat ∈ l := by
  unfold zs
  simp only [List.mem_map]
  constructor
  · rintro ⟨k, hk, rfl⟩
    exact ⟨by omega, by simpa using hk⟩
  · rintro ⟨h, hk⟩
    exact ⟨_, hk, by omega⟩
/-- the keys of such a map -/
theorem keys_pick {W : World} {M n : Nat} {D : DataW Unit} {S : Nat → Bool} (hown : W.ownsMap Try.prog 3 (plainElem Try.prog 4) M n D) (h : ∀ z : Int, has D (.int .i64 z) = true ↔ 0 ≤ z ∧ z < 60 ∧ S z.toNat = true) : (zs (pick 60 S)).Perm (intKeys D) := by
  obtain ⟨es, hD, hpw, _⟩ := hown.entries law3
  obtain ⟨es', hD', hko⟩ := hown.keysOf
  obtain rfl : es = es' := by rw [hD] at hD'; simpa using hD'
  subst hD
  refine perm_intKeys hpw (fun p hp => by obtain ⟨v, hv⟩ := hko p hp; obtain ⟨x, _, hx, _⟩ := Maps.keyOf_i64 Try.underlying3 hv; exact ⟨x, hx⟩) (zs_nodup (pick_nodup _ _)) (fun x => ?_)
  rw [h x, mem_zs, mem_pick]
  constructor
  · rintro ⟨a, b, c⟩; exact ⟨a, by omega, c⟩
  · rintro ⟨a, b, c⟩; exact ⟨a, by omega, c⟩
theorem map_small {W : World} {M n : Nat} {D : DataW Unit} {S : Nat → Bool} (hown : W.ownsMap Try.prog 3 (plainElem Try.prog 4) M n D) (h : ∀ z : Int, has D (.int .i64 z) = true ↔ 0 ≤ z ∧ z < 60 ∧ S z.toNat = true) : W.ownsMap Try.prog 3 (plainElem Try.prog 4) M 60 D := by
  have hp := (keys_pick hown h).length_eq
  obtain ⟨es, clock, hb, F, hs, hD⟩ := hown
  refine ⟨es, clock, hb, F, ?_, hD⟩
  subst hD
  have e1 : (intKeys (.map ((es.toList.map (Go.WideElems.rg Try.prog 3 (plainElem Try.prog 4))).foldr DataW.insert []) : DataW Unit)).length = es.size := by
    unfold intKeys
    simp only [List.length_map]
    rw [length_sorted]
    simp
  rw [e1] at hp
  have e2 : (zs (pick 60 S)).length ≤ 60 := by
    unfold zs pick
    rw [List.length_map]
    exact Nat.le_trans (List.length_filter_le _ _) (by simp)
  omega
theorem mapB_made (W : World) : MapB (W.alloc (.map #[] 0)) W.heap.size (fun _ => false) :=
  ⟨.map [], (World.ownsMap_made W _ _ _).mono (by decide), fun z => by simp [has], fun z => rfl⟩
theorem MapB.lt {W : World} {M : Nat} {S : Nat → Bool} (h : MapB W M S) : M < W.heap.size := by
  obtain ⟨D, h, _⟩ := h
  exact h.lt
theorem MapB.same {W W' : World} {M : Nat} {S : Nat → Bool} (h : MapB W M S) (e : W'.heap[M]? = W.heap[M]?) : MapB W' M S := by
  obtain ⟨D, ⟨es, clock, hb, hr⟩, h2⟩ := h
  exact ⟨D, ⟨es, clock, e.trans hb, hr⟩, h2⟩
theorem MapB.keep {W W' : World} {M : Nat} {S : Nat → Bool} (h : MapB W M S) (hb : Below W.heap.size W W') : MapB W' M S := h.same (hb.block M h.lt)
theorem MapB.ext {W : World} {M : Nat} {S S' : Nat → Bool} (h : MapB W M S) (e : ∀ x, x < 60 → S x = S' x) : MapB W M S' := by
  obtain ⟨D, h1, h2, h3⟩ := h
  refine ⟨D, h1, fun z => (h2 z).trans ?_, h3⟩
  constructor
  · rintro ⟨a, b, c⟩; exact ⟨a, b, by rw [← e _ (by omega)]; exact c⟩
  · rintro ⟨a, b, c⟩; exact ⟨a, b, by rw [e _ (by omega)]; exact c⟩
/-- what is looked up -/
theorem MapB.look {W : World} {M : Nat} {S : Nat → Bool} (h : MapB W M S) {x : Nat} (hx : x < 60) : (Instr.lookup 142 (.map (some M)) (.int .i64 (x : Int)) false).run Try.prog W = .ok (.bool (S x)) W := by
  obtain ⟨D, h1, h2, h3⟩ := h
  obtain ⟨v, ps, hrun, hv⟩ := h1.lookup law3 Try.underlying142 (zero4 W) (plainElem_bool Try.underlying4 false) (key3 x hx)
  rw [h3] at hv
  have e : has D (.int .i64 (x : Int)) = S x := by
    rw [Bool.eq_iff_iff, h2]
    constructor
    · rintro ⟨_, _, c⟩; simpa using c
    · intro c; exact ⟨by omega, by omega, by simpa using c⟩
  rw [e] at hv
  rw [hrun, bool_inv hv]
/-- one number more -/
theorem MapB.put {W : World} {M : Nat} {S : Nat → Bool} (h : MapB W M S) {x : Nat} (hx : x < 60) : ∃ W', (Instr.mapUpdate 142 (.map (some M)) (.int .i64 (x : Int)) (.bool true)).run Try.prog W = .ok () W' ∧ MapB W' M (fun y => S y || decide (y = x)) ∧ W.grownBy W' (some M) := by
  obtain ⟨D, h1, h2, h3⟩ := h
  obtain ⟨W', hrun, hown, hg⟩ := h1.update law3 Try.underlying142 (by unfold maxLen; decide) (key3 x hx) (plainElem_bool Try.underlying4 true)
  have hm : IsMap D := by
    obtain ⟨es, clock, hb, F, hs, hD⟩ := h1
    exact ⟨_, hD⟩
  have hk : WideAt.IsKeyLit (.int .i64 (x : Int)) := by first | trivial | decide | exact ⟨⟩
  have hne : ∀ z : Int, z ≠ x → (Lit.int .i64 z) ≠ .int .i64 (x : Int) := fun z hz e => hz (by injection e)
  have e1 : ∀ z : Int, has (D.put (.int .i64 (x : Int)) (.lit (.bool true))) (.int .i64 z) = true ↔ 0 ≤ z ∧ z < 60 ∧ (fun y => S y || decide (y = x)) z.toNat = true := by
    intro z
    by_cases hz : z = x
    · subst hz
      rw [has_put_same hm hk]
      simp; omega
    · rw [has_put_other (hne z hz), h2]
      constructor
      · rintro ⟨a, b, c⟩; exact ⟨a, b, by simp [c]⟩
      · rintro ⟨a, b, c⟩
        refine ⟨a, b, ?_⟩
        simp only [Bool.or_eq_true, decide_eq_true_iff] at c
        rcases c with c | c
        · exact c
        · omega
  refine ⟨W', hrun, ⟨_, map_small (S := fun y => S y || decide (y = x)) hown e1, e1, fun z => ?_⟩, hg⟩
  by_cases hz : z = x
  · subst hz
    rw [atKey_put_same hm hk, has_put_same hm hk]
  · rw [atKey_put_other (hne z hz), has_put_other (hne z hz), h3]
/-- the keys, sorted -/
theorem keys_any (mb : Option Nat) (W : World) : Calls Try.prog 105 #[.map mb] W fun e W' => e = .returned (.func (.func 158) #[] #[.pointer (some ⟨W.heap.size, 0, none⟩)]) ∧ W' = W.alloc (.cells #[.map mb] 142) :=
  callsIn_wide.1 (AnyZI.keys_in Try.keysA Fence.wide 5 trivial rfl mb W)
theorem sortsA (m : Nat) : AnyZI.SortsIn Try.prog Try.sortedA_ren Fence.wide m :=
  ⟨fun blk off cap ss W hH hblk hsz => callsIn_wide.2 (AnyM.slices_Sort_int Try.sortA blk off cap ss W hH hblk hsz), fun p cap W => callsIn_wide.2 (AnyM.slices_Sort_int_none Try.sortA p cap W)⟩
theorem flatN_zs (l : List Nat) : (zs l).map encZ = flatN l := by
  unfold zs flatN
  rw [List.map_map]
  rfl
theorem sorted_any (M Bm : Nat) (S : Nat → Bool) (W : World) (hM : MapB W M S) (hB : W.cell? ⟨Bm, 0, none⟩ = some (.map (some M))) : Calls Try.prog 104 #[.func (.func 158) #[] #[.pointer (some ⟨Bm, 0, none⟩)]] W fun e W' =>
    ∃ v, e = .returned v ∧ W'.ownsRow W.heap.size 3 1 v (pick 60 S).length (flatN (pick 60 S)) ∧ Below W.heap.size W W' := by
  obtain ⟨D, hown, hh, _⟩ := hM
  have hp := keys_pick hown hh
  have hsz : Maps.size D ≤ 60 := by
    have e : Maps.size D = (intKeys D).length := by
      obtain ⟨es, clock, hb, F, hs, hD⟩ := hown
      subst hD
      simp [Maps.size, intKeys]
    rw [e, ← hp.length_eq]
    unfold zs pick
    rw [List.length_map]
    exact Nat.le_trans (List.length_filter_le _ _) (by simp)
  have hseq : SeqGives Fence.wide 2 Try.prog 158 #[.pointer (some ⟨Bm, 0, none⟩)] encZ (fun ss => ss.Perm (intKeys D)) (Maps.size D) W :=
    AnyZI.keys_gives (ρ := Try.keysA_ren) { Try.keysA with } Fence.wide _ trivial rfl (by omega) Bm M 60 D _ (World.block_lt_of_cell? W ⟨Bm, 0, none⟩ hB) hB hown
  have cS := AnyZI.sorted_in Try.sortedA Fence.wide 5 trivial trivial trivial trivial rfl (by omega) (sortsA _) (enters_of Try.func85 (by kernel_rfl) rfl) 158 #[.pointer (some ⟨Bm, 0, none⟩)] trivial (enters_of Try.func158 (by kernel_rfl) rfl) _ _ (by unfold maxLen; omega) (by omega) _ hseq
  change CallsIn _ _ Try.prog 104 _ _ _ at cS
  refine (callsIn_wide.1 cS).mono fun e W' h => ?_
  obtain ⟨v, ss, rfl, hS, hrow, _, hb⟩ := h
  have hs : ss.mergeSort (fun x y => decide (x ≤ y)) = zs (pick 60 S) := sort_pick (hS.trans hp.symm) (pick_nodup _ _) (fun i => mem_pick)
  rw [hs, flatN_zs] at hrow
  have hl : ss.length = (pick 60 S).length := by
    have := (hS.trans hp.symm).length_eq
    rw [this]
    unfold zs
    simp
  rw [hl] at hrow
  exact ⟨v, rfl, hrow, hb⟩
end Go.Proofs.Ytdohfpnnmppdkaa

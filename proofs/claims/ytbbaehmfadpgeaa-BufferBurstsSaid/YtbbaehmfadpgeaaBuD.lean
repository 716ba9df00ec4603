/-
  Bursts: the list and the table behind a burst.
-/
import Derived.Test.YtbbaehmfadpgeaaBuB
namespace Go.Proofs.Ytbbaehmfadpgeaa
open Go.RowKit Go.Shelf
set_option linter.unusedSimpArgs false
/-- the list behind a burst -/
def updG (t w : Int) : Int → List Hd → List Hd
  | _, [] => []
  | r, x :: xs => if okH t w r x then { x with sent := t } :: updG t w (r - byH x) xs else x :: updG t w r xs
theorem updG_map (t w : Int) : ∀ (L : List Hd) (r : Int), (updG t w r L).map (fun h => h.r) = L.map fun h => h.r := by
  intro L
  induction L with
  | nil => intro r; rfl
  | cons x l ih => intro r; simp only [updG]; split <;> simp [ih]
theorem updG_ids (t w r : Int) (L : List Hd) : idsL (updG t w r L) = idsL L := by
  have := congrArg (List.map fun r : Rc => r.id) (updG_map t w L r)
  simpa [idsL, List.map_map, Function.comp_def] using this
theorem updG_length (t w r : Int) (L : List Hd) : (updG t w r L).length = L.length := by
  have := congrArg List.length (updG_map t w L r)
  simpa using this
theorem updG_ok {t w r : Int} {L : List Hd} (h : ∀ x ∈ L, OkR x.r) : ∀ x ∈ updG t w r L, OkR x.r := by
  intro x hx
  have h1 : x.r ∈ (updG t w r L).map (fun h => h.r) := List.mem_map.2 ⟨x, hx, rfl⟩
  rw [updG_map] at h1
  obtain ⟨y, hy, e⟩ := List.mem_map.1 h1
  rw [← e]
  exact h y hy
theorem updG_ord {t w r : Int} {L : List Hd} (h : Ord L) : Ord (updG t w r L) := by
  rw [ord_map, updG_map, ← ord_map]
  exact h
/-- the table, when some records have been sent -/
def fB (L : List Hd) (t : Int) (ys : List Hd) : Int → Option Hd := fun z => if z ∈ idsL ys then (atL L z).map (fun h => { h with sent := t }) else atL L z
theorem fB_nil (L : List Hd) (t : Int) : fB L t [] = atL L := by
  funext z
  simp [fB, idsL]
theorem fB_snoc {L : List Hd} (hn : (idsL L).Nodup) (t : Int) (ys : List Hd) {x : Hd} (hx : x ∈ L) : fB L t (ys ++ [x]) = fun z => if z = x.r.id then some { x with sent := t } else fB L t ys z := by
  funext z
  unfold fB
  by_cases h : z = x.r.id
  · subst h
    rw [if_pos rfl, if_pos (by simp [idsL]), atL_mem hn hx]
    rfl
  · rw [if_neg h]
    have e : (z ∈ idsL (ys ++ [x])) = (z ∈ idsL ys) := by simp [idsL, h]
    simp only [e]
theorem snd_ids_mem (t w : Int) (L : List Hd) (r z : Int) (h : z ∈ idsL (sndG id t w r L)) : z ∈ idsL L := by
  obtain ⟨x, hx, e⟩ := List.mem_map.1 h
  exact List.mem_map.2 ⟨x, sndG_mem id t w L r x hx, e⟩
theorem updG_at (t w : Int) : ∀ (L : List Hd) (r : Int), (idsL L).Nodup → atL (updG t w r L) = fB L t (sndG id t w r L) := by
  intro L
  induction L with
  | nil => intro r _; funext z; rfl
  | cons x l ih =>
    intro r hn
    have h1 := List.nodup_cons.1 hn
    funext z
    simp only [updG, sndG, id]
    split
    · next ha =>
      rw [atL_cons]
      unfold fB
      by_cases hz : z = x.r.id
      · subst hz
        rw [if_pos rfl, if_pos (by simp [idsL]), atL_cons, if_pos rfl]
        rfl
      · rw [if_neg hz, ih _ h1.2, atL_cons, if_neg hz]
        have e : (z ∈ idsL (x :: sndG id t w (r - byH x) l)) = (z ∈ idsL (sndG id t w (r - byH x) l)) := by simp [idsL, hz]
        simp only [e]
        rfl
    · next ha =>
      rw [atL_cons]
      unfold fB
      by_cases hz : z = x.r.id
      · subst hz
        have hni : x.r.id ∉ idsL (sndG id t w r l) := fun h => h1.1 (snd_ids_mem t w l r _ h)
        rw [if_pos rfl, if_neg hni, atL_cons, if_pos rfl]
      · rw [if_neg hz, ih _ h1.2, atL_cons, if_neg hz]
        rfl
theorem vls_snd {L : List Hd} (t w : Int) : ∀ (pre : List {x // x ∈ L}) (r : Int), vls (sndG (fun y : {x // x ∈ L} => y.1) t w r pre) = sndG id t w r (vls pre) := by
  intro pre
  induction pre with
  | nil => intro r; rfl
  | cons x l ih =>
    intro r
    simp only [sndG, vls, List.map_cons, id]
    split
    · simpa [vls] using ih _
    · simpa [vls] using ih _
theorem fB_look {L : List Hd} (hn : (idsL L).Nodup) (t w r : Int) (k : Nat) (hk : k < L.length) : fB L t (sndG id t w r (L.take k)) (L[k].r.id) = some L[k] := by
  unfold fB
  rw [if_neg, atL_get hn hk]
  intro h
  have h2 := snd_ids_mem t w _ r _ h
  have e : idsL (L.take k) = (idsL L).take k := by simp [idsL, List.map_take]
  rw [e] at h2
  have e2 : (idsL L)[k]'(by simpa [idsL] using hk) = L[k].r.id := by simp [idsL]
  rw [← e2] at h2
  obtain ⟨j, hj, e3⟩ := List.mem_take_iff_getElem.1 h2
  have := (List.getElem_inj hn).1 e3
  omega
theorem vls_take {L : List Hd} (k : Nat) : vls (L.attach.take k) = L.take k := by
  unfold vls
  rw [List.map_take, List.attach_map_subtype_val]
theorem sending_any (b : Nat) (x y z : Int) (w : World) : Calls Try.prog 63 #[.pointer (some ⟨b, 0, none⟩), .int .i64 x, .int .i64 y, .int .i64 z] w fun e w' => e = .returned (.func (.func 89) #[] #[.pointer (some ⟨w.heap.size + 1, 0, none⟩), .pointer (some ⟨w.heap.size, 0, none⟩), .pointer (some ⟨w.heap.size + 2, 0, none⟩), .pointer (some ⟨w.heap.size + 3, 0, none⟩)]) ∧ w' = (((w.alloc (.cells #[.pointer (some ⟨b, 0, none⟩)] 27)).alloc (.cells #[.int .i64 x] 2)).alloc (.cells #[.int .i64 y] 2)).alloc (.cells #[.int .i64 z] 2) := by
  have hmf : ∀ (fn : Fn) (first cap : Array Value) (w : World), (Instr.makeFunc fn first cap).run Try.prog w = .ok (.func fn first cap) w := fun _ _ _ _ => rfl
  go_enter Try.func63, Try.ntmps63
  go_wp2_with fail
  go_ret
  exact ⟨by first | rfl | simp [Nat.add_assoc], rfl⟩

end Go.Proofs.Ytbbaehmfadpgeaa

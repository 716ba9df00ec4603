/-
  Cables: CheckShare; what is granted fills the limits (mathematics).
-/
import Derived.Test.YtdohfpnnmppdkaaGreatZb
namespace Go.Proofs.YtdohfpnnmppdkaaGreat
open Go.RowKit Go.Shelf
set_option linter.unusedSimpArgs false
attribute [local go_sem] Oper.semAt_some
theorem ansW_yes {ns : List Nd} {g : Nat → Int} {k : Nat} (hk : k < ns.length) (h : caF ns g k ≤ (nd ns k).lim) : ansW (dwL ns g) k ≠ 0 := by
  unfold ansW
  rw [dwL_nd hk, (dwL_cur g k).2]
  have e : decide (caF ns g k ≤ (dwN ns g k).lim) = true := decide_eq_true h
  rw [e]
  simp [ansV]
set_option maxRecDepth 100000 in
set_option maxHeartbeats 8000000 in
/-- CheckShare where no limit is exceeded -/
theorem check9_ok (sl sh : Int) (sv gv : Value) (ns : List Nd) (gs : List Int) (hv : ValidC sl sh ns) (hgl : gs.length = ns.length) (hgb : ∀ k, 0 ≤ ti gs k ∧ ti gs k ≤ 65536) (hle : ∀ k, k < ns.length → caF ns (ti gs) k ≤ (nd ns k).lim) (w : World) (hN : Nds w.heap.size w sv ns) (hG : Il w.heap.size w gv gs) :
    Calls Tryz.prog 9 #[.agg #[.int .i64 sl, .int .i64 sh, sv], gv] w fun e w' => e = .returned (.tuple #[.int .i64 0, .int .i64 0]) ∧ Below w.heap.size w w' := by
  have hdv := dwL_valid (g := ti gs) (fun k _ => hgb k) hv
  have c1 := Lib.hid (fun W (h : Below w.heap.size w W) => check25 sl sh sv ns W (hN.at h))
  rw [hv.err] at c1
  have c2 := Lib.hid (fun W (h : Below w.heap.size w W) => upTo_all gv gs 65536 W (hG.at h) (by have := hv.len; omega))
  rw [show decide (∀ k, k < gs.length → 0 ≤ ti gs k ∧ ti gs k ≤ 65536) = true from decide_eq_true fun k _ => hgb k] at c2
  have c3 := Lib.hid (fun W (h : Below w.heap.size w W) => drawing_any sl sh sv gv ns gs hv hgl W (hN.at h) (hG.at h))
  have c4 := Lib.hid (fun W dv (h : Nds W.heap.size W dv (dwL ns (ti gs))) => allowed_any sl sh dv (dwL ns (ti gs)) hdv W h)
  have c5 := Lib.hid (show ∀ W base v, W.ownsRow base 61 1 v (dwL ns (ti gs)).length ((fL (ansW (dwL ns (ti gs))) (dwL ns (ti gs)).length).map (fun x => Value.int .i64 x)) → Calls Tryz.prog 28 #[v, .int .i64 0] W fun e w' => e = .returned (.int .i64 (-1)) ∧ w' = W from fun W base v h => by
    refine index28_no v (fL (ansW (dwL ns (ti gs))) (dwL ns (ti gs)).length) (by rw [fL_len]; have := hdv.len; omega) (fun k hk => ?_) W (il_of_ints h)
    rw [fL_len] at hk
    rw [fL_ti _ hk]
    rw [dwL_len] at hk
    exact ansW_yes hk (hle k hk))
  obtain ⟨a, cap, hsv⟩ := hN.form
  subst hsv
  obtain ⟨ga, gc, rfl⟩ := hG.form
  rw [hgl] at *
  clear hN hG hv hdv hgl hgb hle
  generalize (dwL ns (ti gs)).length = dn at *
  generalize (fL (ansW (dwL ns (ti gs))) dn).map (fun x => Value.int .i64 x) = AW at *
  generalize dwL ns (ti gs) = dns at *
  generalize ns.length = n at *
  obtain ⟨A, hA⟩ : ∃ A, A = w.alloc (.cells #[.int .i64 sl, .int .i64 sh, .slice a n cap] 26) := ⟨_, rfl⟩
  have HBA := Lib.hid (show Below w.heap.size w A by rw [hA]; exact ((Below.refl _ _).alloc (Nat.le_refl _) _))
  have hltA : w.heap.size < A.heap.size := by rw [hA]; simp
  have q0 : A.cell? ⟨w.heap.size, 0, none⟩ = some (.int .i64 sl) := by rw [hA]; exact (cellHB (World.alloc_heap_new w _) 0).trans (by simp)
  have q1 : A.cell? ⟨w.heap.size, 1, none⟩ = some (.int .i64 sh) := by rw [hA]; exact (cellHB (World.alloc_heap_new w _) 1).trans (by simp)
  have q2 : A.cell? ⟨w.heap.size, 2, none⟩ = some (.slice a n cap) := by rw [hA]; exact (cellHB (World.alloc_heap_new w _) 2).trans (by simp)
  have KK := Lib.hid (show ∀ W, Below A.heap.size A W → W.cell? ⟨w.heap.size, 0, none⟩ = some (.int .i64 sl) ∧ W.cell? ⟨w.heap.size, 1, none⟩ = some (.int .i64 sh) ∧ W.cell? ⟨w.heap.size, 2, none⟩ = some (.slice a n cap) from fun W h => ⟨(h.cell (p := ⟨w.heap.size, 0, none⟩) hltA).trans q0, (h.cell (p := ⟨w.heap.size, 1, none⟩) hltA).trans q1, (h.cell (p := ⟨w.heap.size, 2, none⟩) hltA).trans q2⟩)
  clear hltA q0 q1 q2
  obtain ⟨k0, k1, k2⟩ := KK.out _ (Below.refl _ _)
  go_enter Tryz.func9, Tryz.ntmps9
  go_upto_region 1 with fail
  rw [← hA]
  clear hA
  go_wp2_with fail
  refine (c1.out _ HBA.out).mono ?_
  rintro e w1 ⟨rfl, hb⟩
  have HB1 := Lib.hid hb
  clear hb k0 k1 k2
  obtain ⟨k0, k1, k2⟩ := KK.out _ HB1.out
  go_wp2_with fail
  refine (c2.out _ (HBA.out.trans (HB1.out.mono HBA.out.size))).mono ?_
  rintro e w2 ⟨rfl, hw2⟩
  subst hw2
  go_wp2_with fail
  refine (c3.out _ (HBA.out.trans (HB1.out.mono HBA.out.size))).mono ?_
  rintro e w3 ⟨dv, rfl, hdn, hb⟩
  have HB3 := Lib.hid (HB1.out.trans (hb.mono HB1.out.size))
  have HDN := Lib.hid hdn
  clear hb hdn k0 k1 k2
  go_wp2_with fail
  refine (c4.out _ dv HDN.out).mono ?_
  rintro e w4 ⟨av, rfl, ho, hb⟩
  have HB4 := Lib.hid (HB3.out.trans (hb.mono HB3.out.size))
  have HO := Lib.hid ho
  clear hb ho
  go_wp2_with fail
  refine (c5.out _ _ av HO.out).mono ?_
  rintro e w5 ⟨rfl, hw5⟩
  subst hw5
  go_wp2_with fail
  go_ret2
  exact ⟨rfl, HBA.out.trans (HB4.out.mono HBA.out.size)⟩
theorem rev_ind {α : Type} {motive : List α → Prop} (l : List α) (nil : motive []) (append_singleton : ∀ (l : List α) (k : α), motive l → motive (l ++ [k])) : motive l := by
  have h : ∀ m : List α, motive m.reverse := by
    intro m
    induction m with
    | nil => exact nil
    | cons a m ih => rw [List.reverse_cons]; exact append_singleton _ _ ih
  have := h l.reverse
  rwa [List.reverse_reverse] at this
/-- what is to spare is the limit less what is granted behind the node -/
theorem sm_put {g : Nat → Int} {p : Nat → Bool} {k : Nat} {x : Int} (h0 : g k = 0) : ∀ n, sm (fun j => if j = k then x else g j) p n = sm g p n + if k < n ∧ p k = true then x else 0 := by
  intro n
  induction n with
  | zero => simp [sm]
  | succ n ih =>
    show sm _ p n + _ = (sm g p n + _) + _
    rw [ih, show (fun j => if j = k then x else g j) n = if n = k then x else g n from rfl]
    by_cases e : n = k
    · subst e
      rw [if_neg (show ¬ (n < n ∧ p n = true) by omega)]
      by_cases hp : p n = true
      · rw [if_pos hp, if_pos hp, if_pos rfl, if_pos ⟨by omega, hp⟩, h0]; try omega
      · rw [if_neg hp, if_neg hp, if_neg (fun h => hp h.2)]; try omega
    · rw [if_neg e]
      generalize (if p n = true then g n else 0) = T
      by_cases hk : k < n
      · by_cases hp : p k = true
        · rw [if_pos ⟨hk, hp⟩, if_pos ⟨by omega, hp⟩]; omega
        · rw [if_neg (fun h => hp h.2), if_neg (fun h => hp h.2)]; omega
      · rw [if_neg (fun h => hk h.1), if_neg (fun h => by omega)]; omega
theorem shF_keep (P : Nat → Nat) (lim rq : Nat → Int) (l : List Nat) (k : Nat) (h : k ∉ l) : (shF P lim rq l).2 k = 0 := foldl_keep P rq l _ k h
theorem shF_spare (P : Nat → Nat) (lim rq : Nat → Int) (n : Nat) : ∀ (l : List Nat), l.Nodup → (∀ k, k ∈ l → k < n) → ∀ j, (shF P lim rq l).1 j = lim j - sm (shF P lim rq l).2 (fun i => decide (j ∈ pth P i)) n := by
  intro l
  induction l using rev_ind with
  | nil =>
    intro _ _ j
    have : ∀ n, sm (fun _ => (0 : Int)) (fun i => decide (j ∈ pth P i)) n = 0 := by
      intro n
      induction n with
      | zero => rfl
      | succ n ih => show sm _ _ n + _ = 0; rw [ih]; simp
    show lim j = lim j - sm (fun _ => 0) _ n
    rw [this]; omega
  | append_singleton l k ih =>
    intro hn hl j
    have hn' := List.nodup_append.1 hn
    have hk : k ∉ l := fun h => (hn'.2.2 k h k (by simp)) rfl
    have i1 := ih hn'.1 (fun q hq => hl q (by simp [hq])) j
    have hkn := hl k (by simp)
    rw [shF_snoc]
    have h0 := shF_keep P lim rq l k hk
    have e := sm_put (p := fun i => decide (j ∈ pth P i)) (x := shG P rq (shF P lim rq l) k) h0 n
    show (if j ∈ pth P k then _ else _) = lim j - sm (fun q => if q = k then _ else _) _ n
    rw [e, i1]
    by_cases hj : j ∈ pth P k
    · rw [if_pos hj, if_pos ⟨hkn, decide_eq_true hj⟩]; omega
    · rw [if_neg hj, if_neg (fun h => hj (of_decide_eq_true h.2))]; omega
/-- a node that gets less than it asks has a node of its path with nothing to spare -/
theorem fold_spare0 (P : Nat → Nat) (lim rq : Nat → Int) (hrq : ∀ k, 0 ≤ rq k) (l : List Nat) (s : ShS) (hs : ShB lim rq s) (j : Nat) (h : s.1 j = 0) : (l.foldl (shStep P rq) s).1 j = 0 := by
  induction l generalizing s with
  | nil => exact h
  | cons a l ih =>
    refine ih _ (hs.step hrq a).1 ?_
    show (if j ∈ pth P a then _ else _) = 0
    by_cases hj : j ∈ pth P a
    · have h1 : shG P rq s a ≤ s.1 j := mnL_mem _ _ _ _ hj
      have h2 := (hs.step hrq a (P := P)).2.1
      rw [if_pos hj]; omega
    · rw [if_neg hj]; exact h
theorem fold_full (P : Nat → Nat) (lim rq : Nat → Int) (hrq : ∀ k, 0 ≤ rq k) (l : List Nat) (s : ShS) (hs : ShB lim rq s) (hn : l.Nodup) (k : Nat) (hk : k ∈ l) (h : (l.foldl (shStep P rq) s).2 k < rq k) : ∃ j, j ∈ pth P k ∧ (l.foldl (shStep P rq) s).1 j = 0 := by
  induction l generalizing s with
  | nil => cases hk
  | cons a l ih =>
    rw [List.nodup_cons] at hn
    by_cases e : k = a
    · subst e
      have e2 : ((k :: l).foldl (shStep P rq) s).2 k = shG P rq s k := by
        rw [List.foldl_cons, foldl_keep _ _ _ _ _ hn.1]
        show (if k = k then _ else _) = _
        rw [if_pos rfl]
      rw [e2] at h
      rcases mnL_full s.1 (pth P k) (rq k) with h1 | ⟨j, hj, h1⟩
      · unfold shG at h; omega
      · refine ⟨j, hj, ?_⟩
        refine fold_spare0 P lim rq hrq l _ (hs.step hrq k).1 j ?_
        show (if j ∈ pth P k then s.1 j - shG P rq s k else _) = 0
        rw [if_pos hj]
        unfold shG
        omega
    · have hk' : k ∈ l := by
        rcases List.mem_cons.1 hk with h | h
        · exact absurd h e
        · exact h
      exact ih _ (hs.step hrq a).1 hn.2 hk' h
theorem share_full (P : Nat → Nat) (lim rq : Nat → Int) (hl : ∀ k, 0 ≤ lim k) (hrq : ∀ k, 0 ≤ rq k) (rk : Nat → Int) (n k : Nat) (od : List Nat) (hT : Turn rk n od) (hk : k < n) (h : (shF P lim rq od).2 k < rq k) : ∃ j, j ∈ pth P k ∧ sm (shF P lim rq od).2 (fun i => decide (j ∈ pth P i)) n = lim j := by
  obtain ⟨j, hj, h0⟩ := fold_full P lim rq hrq od (lim, fun _ => 0) ⟨fun j => ⟨hl j, Int.le_refl _⟩, fun j => ⟨Int.le_refl _, hrq j⟩⟩ hT.nodup k ((hT.all k).2 hk) h
  refine ⟨j, hj, ?_⟩
  have := shF_spare P lim rq n od hT.nodup (fun q hq => (hT.all q).1 hq) j
  have e : (shF P lim rq od).1 j = 0 := h0
  omega
theorem share_limit (P : Nat → Nat) (lim rq : Nat → Int) (hl : ∀ k, 0 ≤ lim k) (hrq : ∀ k, 0 ≤ rq k) (rk : Nat → Int) (n j : Nat) (od : List Nat) (hT : Turn rk n od) : sm (shF P lim rq od).2 (fun i => decide (j ∈ pth P i)) n ≤ lim j := by
  have h1 := shF_spare P lim rq n od hT.nodup (fun q hq => (hT.all q).1 hq) j
  have h2 := ((shF_bd (P := P) hl hrq od).sp j).1
  omega
end Go.Proofs.YtdohfpnnmppdkaaGreat

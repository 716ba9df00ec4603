import Derived.Test.YtamelpfhbnkggaaBridge
import Derived.Test.YtamelpfhbnkggaaJoin
namespace Go.Proofs.Ytamelpfhbnkggaa
open Go.RowKit Go.Shelf
attribute [local go_sem] Oper.semAt_some
set_option linter.unusedSimpArgs false

/-- true, behind a name -/
def TT : Prop := True
theorem tt : TT := trivial
def mstep (l : List (Int × Int)) (x : Int × Int) : List (Int × Int) :=
  match l.getLast? with
  | none => [x]
  | some y => if y.2 + 1 < x.1 then l ++ [x] else l.dropLast ++ [(min y.1 x.1, max y.2 x.2)]
def mrg (l : List (Int × Int)) : List (Int × Int) := l.foldl mstep []
theorem mrg_snoc (l : List (Int × Int)) (x : Int × Int) : mrg (l ++ [x]) = mstep (mrg l) x := by simp [mrg]
theorem mstep_nil (x : Int × Int) : mstep [] x = [x] := rfl
theorem mstep_no (l : List (Int × Int)) (y x : Int × Int) (h : y.2 + 1 < x.1) : mstep (l ++ [y]) x = l ++ [y] ++ [x] := by simp [mstep, h]
theorem mstep_yes (l : List (Int × Int)) (y x : Int × Int) (h : ¬ y.2 + 1 < x.1) : mstep (l ++ [y]) x = l ++ [(min y.1 x.1, max y.2 x.2)] := by simp [mstep, h]
def Ok (y : Int × Int) : Prop := -1073741824 ≤ y.1 ∧ y.2 ≤ 1073741824 ∧ y.1 ≤ y.2
theorem mstep_ok (l : List (Int × Int)) (x : Int × Int) (hl : ∀ y ∈ l, Ok y) (hx : Ok x) : ∀ y ∈ mstep l x, Ok y := by
  rcases List.eq_nil_or_concat l with rfl | ⟨l', z, rfl⟩
  · intro y hy; simp [mstep_nil] at hy; subst hy; exact hx
  · by_cases h : z.2 + 1 < x.1
    · rw [List.concat_eq_append] at *
      rw [mstep_no _ _ _ h]
      intro y hy
      rcases List.mem_append.1 hy with hy | hy
      · exact hl y hy
      · simp at hy; subst hy; exact hx
    · rw [List.concat_eq_append] at *
      rw [mstep_yes _ _ _ h]
      intro y hy
      rcases List.mem_append.1 hy with hy | hy
      · exact hl y (by simp [hy])
      · simp at hy; subst hy
        have h1 := hl z (by simp)
        unfold Ok at *
        simp only
        omega
theorem mstep_len (l : List (Int × Int)) (x : Int × Int) : (mstep l x).length ≤ l.length + 1 := by
  rcases List.eq_nil_or_concat l with rfl | ⟨l', z, rfl⟩
  · simp [mstep_nil]
  · rw [List.concat_eq_append]
    by_cases h : z.2 + 1 < x.1
    · rw [mstep_no _ _ _ h]; simp
    · rw [mstep_yes _ _ _ h]; simp
theorem snoc_ind {α : Type} {P : List α → Prop} (h0 : P []) (h1 : ∀ l x, P l → P (l ++ [x])) (l : List α) : P l := by
  have : ∀ n, ∀ l : List α, l.length = n → P l := by
    intro n
    induction n with
    | zero => intro l hl; rw [List.eq_nil_of_length_eq_zero hl]; exact h0
    | succ n ih =>
      intro l hl
      rcases List.eq_nil_or_concat l with rfl | ⟨l', z, rfl⟩
      · exact h0
      · rw [List.concat_eq_append] at *; exact h1 _ _ (ih _ (by simpa using hl))
  exact this _ l rfl
theorem mrg_len (l : List (Int × Int)) : (mrg l).length ≤ l.length := by
  refine snoc_ind (P := fun l => (mrg l).length ≤ l.length) (by simp [mrg]) (fun l x ih => ?_) l
  rw [mrg_snoc]; have := mstep_len (mrg l) x; simp; omega
theorem mrg_ok (l : List (Int × Int)) (h : ∀ y ∈ l, Ok y) : ∀ y ∈ mrg l, Ok y := by
  refine snoc_ind (P := fun l => (∀ y ∈ l, Ok y) → ∀ y ∈ mrg l, Ok y) (fun _ y hy => by simp [mrg] at hy) (fun l x ih hh => ?_) l h
  rw [mrg_snoc]; exact mstep_ok _ _ (ih fun y hy => hh y (by simp [hy])) (hh x (by simp))
theorem sp_ok (x : Sp) : Ok x.1 := ⟨x.2.2.1, x.2.2.2, x.2.1⟩
theorem vals_ok (ss : List Sp) : ∀ y ∈ vals ss, Ok y := by
  intro y hy
  simp only [vals, List.mem_map] at hy
  obtain ⟨x, _, rfl⟩ := hy
  exact sp_ok x

theorem flat_app (a b : List (Int × Int)) : flat (a ++ b) = flat a ++ flat b := by simp [flat]
theorem flat_len (zs : List (Int × Int)) : (flat zs).length = zs.length * 2 := by
  induction zs with
  | nil => rfl
  | cons z zs ih => simp [flat] at *; omega
theorem flat_one (z : Int × Int) : flat [z] = [.int .i64 z.1, .int .i64 z.2] := rfl
/-- the last span of a row of the call's own is written -/
theorem owns_set2 {W : World} {base g cap n : Nat} {zs : List (Int × Int)} {y z : Int × Int} (hn : zs.length = n) (h : W.ownsRow base 23 2 (.slice (some ⟨g, 0, none⟩) (n + 1) cap) (n + 1) (flat (zs ++ [y]))) :
    ((W.setCell ⟨g, n * 2, none⟩ (.int .i64 z.1)).setCell ⟨g, n * 2 + 1, none⟩ (.int .i64 z.2)).ownsRow base 23 2 (.slice (some ⟨g, 0, none⟩) (n + 1) cap) (n + 1) (flat (zs ++ [z])) := by
  have h2 := ((h.stored (n * 2) (.int .i64 z.1)).1.stored (n * 2 + 1) (.int .i64 z.2)).1
  have e : ((flat (zs ++ [y])).set (n * 2) (.int .i64 z.1)).set (n * 2 + 1) (.int .i64 z.2) = flat (zs ++ [z]) := by
    rw [flat_app, flat_app, flat_one, flat_one, List.set_append_right _ _ (by rw [flat_len]; omega), List.set_append_right _ _ (by rw [flat_len]; omega), flat_len, hn]
    simp
  rwa [e] at h2
/-- the cells of the last span -/
theorem owns_last {W : World} {base g cap n : Nat} {zs : List (Int × Int)} {y : Int × Int} (hn : zs.length = n) (h : W.ownsRow base 23 2 (.slice (some ⟨g, 0, none⟩) (n + 1) cap) (n + 1) (flat (zs ++ [y]))) :
    W.cell? ⟨g, n * 2, none⟩ = some (.int .i64 y.1) ∧ W.cell? ⟨g, n * 2 + 1, none⟩ = some (.int .i64 y.2) ∧ W.frozen? ⟨g, n * 2, none⟩ = false ∧ W.frozen? ⟨g, n * 2 + 1, none⟩ = false := by
  refine ⟨(h.cellAt (n * 2) (by omega)).trans ?_, (h.cellAt (n * 2 + 1) (by omega)).trans ?_, h.frozenAt _, h.frozenAt _⟩
  · rw [flat_app, flat_one, List.getElem?_append_right (by rw [flat_len]; omega), flat_len, hn]; simp
  · rw [flat_app, flat_one, List.getElem?_append_right (by rw [flat_len]; omega), flat_len, hn]; simp

theorem Boxed2.set2 {W : World} {B : Nat} {t : TypeId} {u v : Value} (h : Boxed2 W B t u v) (u' v' : Value) : Boxed2 ((W.setCell ⟨B, 0, none⟩ u').setCell ⟨B, 1, none⟩ v') B t u' v' := by
  unfold Boxed2 at *
  simp [World.setCell, Array.getElem?_modify, h]
set_option maxRecDepth 100000 in
set_option maxHeartbeats 4000000 in
theorem merged_in (n : Nat) (hn : 4 ≤ n) (g : Nat) (lb : Array Value) (eg : ∀ args w, (callFunc g args).run Try.prog w = .ok (.enter g args) w)
    (S SpP : List Sp → Prop) (N : Nat) (hN : N ≤ 8796093022207) (n₀ : Nat) (w : World) (hn₀ : n₀ ≤ w.heap.size) (hseq : SeqStopsK Fence.wide (n - 1) Try.prog g lb (fun x : Sp => #[spv x.1]) (Below n₀) S SpP N w) :
    CallsIn Fence.wide n Try.prog 100 #[.func (.func g) #[] lb, .func (.func 101) #[] #[]] w fun e W' => ∃ v ss, e = .returned v ∧ S ss ∧ W'.ownsRow w.heap.size 23 2 v (mrg (vals ss)).length (flat (mrg (vals ss))) ∧ Below w.heap.size w W' := by
  obtain ⟨i0, hi, hz0, hz1, hz2⟩ := info_parts infoSp
  refine callsIn_of_wp_marks Try.func100 rfl trivial ?_ rfl
  simp only [Try.ntmps100, List.size_toArray, List.length_cons, List.length_nil, Nat.reduceAdd, Nat.reduceSub, Array.replicate_succ, Array.replicate_zero, List.push_toArray, List.append_toArray, List.nil_append, List.cons_append]
  gi_wp2
  have bJ := Boxed.new w 99 (.func (.func 101) #[] #[])
  have bO := Boxed.new (w.alloc (.cells #[.func (.func 101) #[] #[]] 99)) 43 (.slice none 0 0)
  rw [World.size_alloc] at bO
  have hB0 : Below w.heap.size w ((w.alloc (.cells #[.func (.func 101) #[] #[]] 99)).alloc (.cells #[.slice none 0 0] 43)) := ((Below.refl _ w).alloc (Nat.le_refl _) _).alloc (by simp) _
  refine wpIn_rangeFunc_ownH rfl (by omega) (gf := g) (lb := lb) rfl trivial eg hseq (belowK_t (n₀ := n₀)) (belowK_b (by simp; omega)) hB0 (fun _ => rfl)
    (fun pre W => ((∃ v, Boxed W (w.heap.size + 1) 43 v ∧ W.ownsRow w.heap.size 23 2 v (mrg (vals pre)).length (flat (mrg (vals pre))) ∧ TT) ∧ Boxed W w.heap.size 99 (.func (.func 101) #[] #[])) ∧ Below w.heap.size w W)
    (fun _ _ _ => False)
    (OwnFrom.and (OwnFrom.and (Own.from (holdsRow_own w.heap.size (w.heap.size + 1) 43 23 2 (fun pre : List Sp => (mrg (vals pre)).length) (fun pre => flat (mrg (vals pre))) (fun _ _ => TT)) _) (Own.from (boxed_own _ _ _) _)) (ownFrom_below (Nat.le_refl _) (by simp; omega)))
    (fun _ _ _ _ _ hs _ _ => hs)
    ⟨⟨⟨_, bO, World.ownsRow_nil _ _ _ _, tt⟩, bJ.alloc _⟩, hB0⟩
    (fun x a' W => ∃ Bx, w.heap.size + 1 < Bx ∧ Boxed2 W Bx 23 (.int .i64 x.1.1) (.int .i64 x.1.2) ∧ a' = { tmps := #[.func (.func g) #[] lb, .func (.func 101) #[] #[], undef, .pointer (some ⟨w.heap.size, 0, none⟩), .slice none 0 0, .pointer (some ⟨w.heap.size + 1, 0, none⟩), .pointer (some ⟨Bx, 0, none⟩), undef, undef, undef, .func (.func g) #[] lb, spv x.1, undef, undef, undef, undef, undef, undef, undef, undef, undef, undef, undef, undef, undef, undef, undef, undef, undef, undef, undef, undef, undef, undef, undef, undef, undef, undef, undef, undef, undef], defers := [] })
    (fun x a' _ X Y row hs hg hr => by obtain ⟨Bx, h1, h2, h3⟩ := hs; exact ⟨Bx, h1, boxed2_own Bx 23 (fun (_ : Unit) => Value.int .i64 x.1.1) (fun (_ : Unit) => Value.int .i64 x.1.2) () X Y row h2 hg (fun r e => (hr r e).2), h3⟩)
    ?assign ?body ?done ?stop
  case assign =>
    rintro l pre x W K ⟨⟨⟨v, hv, hrow, -⟩, hj⟩, hB⟩ hK
    unfold spv
    gi_wp2
    exact hK _ _ ((KeepsOthers.alloc _ _).from _) ((Below.refl _ W).alloc (Nat.le_trans hn₀ hB.size) _) ⟨⟨⟨v, hv.alloc _, hrow.alloc _, tt⟩, hj.alloc _⟩, hB.alloc hB.size _⟩ ⟨W.heap.size, hv.lt, Boxed2.new W 23 _ _, rfl⟩
  case body =>
    rintro l pre x a' W hl ⟨r, hr⟩ ⟨⟨⟨v, hv, hrow, -⟩, hj⟩, hB⟩ ⟨Bx, hBx, bX, rfl⟩ hlt
    have hc := hv.cell
    have x0 := bX.c0
    have x1 := bX.c1
    have hml := mrg_len (vals pre)
    have hvl : (vals pre).length = pre.length := by simp [vals]
    unfold spv
    rcases List.eq_nil_or_concat (mrg (vals pre)) with hm | ⟨zs, y, hm⟩
    · have hstep : mrg (vals (pre ++ [x])) = [x.1] := by rw [vals_snoc, mrg_snoc, hm]; rfl
      have Hstep := Lib.hid hstep
      rw [hm] at hrow
      clear hm hstep hvl hml
      have hrow0 := hrow
      rcases hrow.2 with ⟨rfl, _⟩ | ⟨gb, cap, cur, rfl, hbase, hgb, r1, r2, r3, r4⟩
      all_goals
        (try clear hgb r3 r4)
        clear hrow
        gi_wp2_with (gi_at_builtin; refine wpListIn_append_own _ rfl _ _ 43 rfl w.heap.size 23 i0 (.agg #[.int .i64 0, .int .i64 0]) 2 16 Try.underlying43 hi hz0 hz1 hz2 rfl (by decide) _ _ _ rfl (hrow0.alloc _) ⟨W.heap.size, 0, none⟩ 1 1 [.int .i64 x.1.1, .int .i64 x.1.2] rfl rfl (cell_two_new _ _ _ _) (by simp [Value.oneCell']) (by unfold maxLen; simp) (by simp) (by have := hB.size; simp; omega) ?_; intro v' w1 hown' hgrow _; obtain ⟨g', cap', rfl⟩ := ownsRow_succ hown'; obtain ⟨hv1, hv2, hr2, hk2, hb2⟩ := hv.appended (by decide) hrow0 hB.size (by omega) hown' hgrow; have hc1 := hv1.cell; have hf1 := hv1.frozen)
        have hj1 : Boxed w1 w.heap.size 99 (.func (.func 101) #[] #[]) := (hj.alloc _).kept hgrow (hj.not_row (by decide) hrow0)
        exact ⟨hk2.from _, hb2.mono hn₀, ⟨⟨_, hv2, by rw [Hstep.out]; simpa [flat] using hr2, tt⟩, hj1.other (by simp) _⟩, hB.trans hb2⟩
    · obtain ⟨m, hmz⟩ : ∃ m, zs.length = m := ⟨_, rfl⟩
      rw [List.concat_eq_append] at hm
      have hstep : mrg (vals (pre ++ [x])) = mstep (zs ++ [y]) x.1 := by rw [vals_snoc, mrg_snoc, hm]
      have hy : Ok y := mrg_ok _ (vals_ok pre) y (by rw [hm]; simp)
      have hx : Ok x.1 := sp_ok x
      obtain ⟨hy1, hy2, hy3⟩ := hy
      obtain ⟨hx1, hx2, hx3⟩ := hx
      rw [hm] at hrow hml
      simp only [List.length_append, List.length_cons, List.length_nil, Nat.zero_add, hmz] at hrow hml
      obtain ⟨gb, cap, rfl⟩ := ownsRow_succ hrow
      obtain ⟨l0, l1, lf0, lf1⟩ := owns_last hmz hrow
      have hm1 : m ≤ 8796093022205 := by omega
      have Hstep := Lib.hid hstep
      have Hmz := Lib.hid hmz
      have Hml := Lib.hid hml
      clear hstep hmz hm hml hvl
      have hcj := hj.cell
      gi_wp2
      refine wpIn_round_held (S := fun w' => w'.cell? ⟨w.heap.size, 0, none⟩ = some (.func (.func 101) #[] #[]) ∧ w'.cell? ⟨w.heap.size + 1, 0, none⟩ = some (.slice (some ⟨gb, 0, none⟩) (m + 1) cap) ∧ w'.cell? ⟨gb, m * 2, none⟩ = some (.int .i64 y.1) ∧ w'.cell? ⟨gb, m * 2 + 1, none⟩ = some (.int .i64 y.2) ∧ w'.cell? ⟨Bx, 0, none⟩ = some (.int .i64 x.1.1) ∧ w'.cell? ⟨Bx, 1, none⟩ = some (.int .i64 x.1.2))
        (by kernel_rfl) (by kernel_rfl) ?hQ ⟨hcj, hc, l0, l1, x0, x1⟩ (fun hHeld => ?_)
      case hQ => rintro ⟨a, w, h⟩; exact h
      have hgl : gb < W.heap.size := (hrow.lt gb rfl).2
      have hBl : Bx < W.heap.size := bX.lt
      have hjl := hj.lt
      have hvl := hv.lt
      have keep : ∀ W', Below W.heap.size W W' → W'.cell? ⟨w.heap.size, 0, none⟩ = some (.func (.func 101) #[] #[]) ∧ W'.cell? ⟨w.heap.size + 1, 0, none⟩ = some (.slice (some ⟨gb, 0, none⟩) (m + 1) cap) ∧ W'.cell? ⟨gb, m * 2, none⟩ = some (.int .i64 y.1) ∧ W'.cell? ⟨gb, m * 2 + 1, none⟩ = some (.int .i64 y.2) ∧ W'.cell? ⟨Bx, 0, none⟩ = some (.int .i64 x.1.1) ∧ W'.cell? ⟨Bx, 1, none⟩ = some (.int .i64 x.1.2) :=
        fun W' h => ⟨((bcell h).1 _ _ hjl).trans hcj, ((bcell h).1 _ _ hvl).trans hc, ((bcell h).1 _ _ hgl).trans l0, ((bcell h).1 _ _ hgl).trans l1, ((bcell h).1 _ _ hBl).trans x0, ((bcell h).1 _ _ hBl).trans x1⟩
      by_cases hyx : y.2 + 1 < x.1.1
      · have hstep := Hstep.out
        rw [mstep_no _ _ _ hyx] at hstep
        have Hs := Lib.hid hstep
        clear hstep Hstep
        have hcon := fun w => joined_no y.1 y.2 x.1.1 x.1.2 (by omega) hy2 hx1 (by omega) hyx w
        refine wpAnyH_take (i := 0) (oi := _) (v := .func (.func 101) #[] #[]) rfl (by kernel_rfl) (by kernel_rfl) (by kernel_rfl) (fun _ _ _ h => h) (Or.inl ⟨by rfl, fun w' hSw => ?_⟩) hHeld ?_
        · obtain ⟨s1, s2, s3, s4, s5, s6⟩ := hSw
          go_simp
          try (intro hh; exfalso; omega)
        try simp only [Act.put, List.setIfInBounds_toArray, List.set_cons_zero, List.set_cons_succ, List.getElem_toArray, List.getElem_cons_succ, List.getElem_cons_zero]
        refine wpAnyH_take (i := 1) (oi := _) (v := .slice (some ⟨gb, 0, none⟩) (m + 1) cap) rfl (by kernel_rfl) (by kernel_rfl) (by kernel_rfl) (fun _ _ _ h => h) (Or.inl ⟨by rfl, fun w' hSw => ?_⟩) hHeld ?_
        · obtain ⟨s1, s2, s3, s4, s5, s6⟩ := hSw
          go_simp
          try (intro hh; exfalso; omega)
        try simp only [Act.put, List.setIfInBounds_toArray, List.set_cons_zero, List.set_cons_succ, List.getElem_toArray, List.getElem_cons_succ, List.getElem_cons_zero]
        refine wpAnyH_take (i := 2) (oi := _) (v := .int .i64 m) rfl (by kernel_rfl) (by kernel_rfl) (by kernel_rfl) (fun _ _ _ h => h) (Or.inl ⟨by rfl, fun w' hSw => ?_⟩) hHeld ?_
        · obtain ⟨s1, s2, s3, s4, s5, s6⟩ := hSw
          go_simp
          try (intro hh; exfalso; omega)
        try simp only [Act.put, List.setIfInBounds_toArray, List.set_cons_zero, List.set_cons_succ, List.getElem_toArray, List.getElem_cons_succ, List.getElem_cons_zero]
        refine wpAnyH_take (i := 3) (oi := _) (v := .pointer (some ⟨gb, m * 2, none⟩)) rfl (by kernel_rfl) (by kernel_rfl) (by kernel_rfl) (fun _ _ _ h => h) (Or.inl ⟨by rfl, fun w' hSw => ?_⟩) hHeld ?_
        · obtain ⟨s1, s2, s3, s4, s5, s6⟩ := hSw
          go_simp
          try (intro hh; exfalso; omega)
        try simp only [Act.put, List.setIfInBounds_toArray, List.set_cons_zero, List.set_cons_succ, List.getElem_toArray, List.getElem_cons_succ, List.getElem_cons_zero]
        refine wpAnyH_take (i := 4) (oi := _) (v := .agg #[.int .i64 y.1, .int .i64 y.2]) rfl (by kernel_rfl) (by kernel_rfl) (by kernel_rfl) (fun _ _ _ h => h) (Or.inl ⟨by rfl, fun w' hSw => ?_⟩) hHeld ?_
        · obtain ⟨s1, s2, s3, s4, s5, s6⟩ := hSw
          go_simp
          try (intro hh; exfalso; omega)
        try simp only [Act.put, List.setIfInBounds_toArray, List.set_cons_zero, List.set_cons_succ, List.getElem_toArray, List.getElem_cons_succ, List.getElem_cons_zero]
        refine wpAnyH_take (i := 5) (oi := _) (v := .agg #[.int .i64 x.1.1, .int .i64 x.1.2]) rfl (by kernel_rfl) (by kernel_rfl) (by kernel_rfl) (fun _ _ _ h => h) (Or.inl ⟨by rfl, fun w' hSw => ?_⟩) hHeld ?_
        · obtain ⟨s1, s2, s3, s4, s5, s6⟩ := hSw
          go_simp
          try (intro hh; exfalso; omega)
        try simp only [Act.put, List.setIfInBounds_toArray, List.set_cons_zero, List.set_cons_succ, List.getElem_toArray, List.getElem_cons_succ, List.getElem_cons_zero]
        refine wpAnyH_ready (rs := [6, 10]) (by kernel_rfl) (by simp) ?_
        refine AllReadyH.cons (o := _) rfl (fun K hK => ?_) (AllReadyH.cons (o := _) rfl (fun K hK => ?_) AllReadyH.nil)
        · go_simp
          refine (hcon _).mono ?_
          rintro e w1 ⟨rfl, hb⟩
          have hBn := ((Below.refl W.heap.size W).drew).trans hb
          clear hHeld
          refine hK.out _ _ (keep _ hBn) (fun hHeld => ?_)
          clear hK K
          try simp only [Act.put, List.setIfInBounds_toArray, List.set_cons_zero, List.set_cons_succ, List.getElem_toArray, List.getElem_cons_succ, List.getElem_cons_zero]
          refine wpAnyH_take (i := 7) (oi := _) (v := .tuple #[.agg #[.int .i64 0, .int .i64 0], .bool false]) rfl (by kernel_rfl) (by kernel_rfl) (by kernel_rfl) (fun _ _ _ h => h) (Or.inl ⟨by rfl, fun w' hSw => ?_⟩) hHeld ?_
          · obtain ⟨s1, s2, s3, s4, s5, s6⟩ := hSw
            go_simp
            try (intro hh; exfalso; omega)
          try simp only [Act.put, List.setIfInBounds_toArray, List.set_cons_zero, List.set_cons_succ, List.getElem_toArray, List.getElem_cons_succ, List.getElem_cons_zero]
          refine wpAnyH_take (i := 8) (oi := _) (v := .agg #[.int .i64 0, .int .i64 0]) rfl (by kernel_rfl) (by kernel_rfl) (by kernel_rfl) (fun _ _ _ h => h) (Or.inl ⟨by rfl, fun w' hSw => ?_⟩) hHeld ?_
          · obtain ⟨s1, s2, s3, s4, s5, s6⟩ := hSw
            go_simp
            try (intro hh; exfalso; omega)
          try simp only [Act.put, List.setIfInBounds_toArray, List.set_cons_zero, List.set_cons_succ, List.getElem_toArray, List.getElem_cons_succ, List.getElem_cons_zero]
          refine wpAnyH_take (i := 9) (oi := _) (v := .bool false) rfl (by kernel_rfl) (by kernel_rfl) (by kernel_rfl) (fun _ _ _ h => h) (Or.inl ⟨by rfl, fun w' hSw => ?_⟩) hHeld ?_
          · obtain ⟨s1, s2, s3, s4, s5, s6⟩ := hSw
            go_simp
            try (intro hh; exfalso; omega)
          try simp only [Act.put, List.setIfInBounds_toArray, List.set_cons_zero, List.set_cons_succ, List.getElem_toArray, List.getElem_cons_succ, List.getElem_cons_zero]
          refine wpAnyH_ready (rs := [10]) (by kernel_rfl) (by simp) ?_
          refine AllReadyH.cons (o := _) rfl (fun K hK => ?_) AllReadyH.nil
          go_simp
          have hBw1 := hBn
          clear hBn
          have hBn := hBw1.alloc hBw1.size (Obj.cells #[Value.int IntKind.i64 0, Value.int IntKind.i64 0] 23)
          clear hHeld
          refine hK.out _ _ (keep _ hBn) (fun hHeld => ?_)
          clear hK K
          try simp only [Act.put, List.setIfInBounds_toArray, List.set_cons_zero, List.set_cons_succ, List.getElem_toArray, List.getElem_cons_succ, List.getElem_cons_zero]
          refine wpAnyH_ready (rs := [11]) (by kernel_rfl) (by simp) ?_
          refine AllReadyH.cons (o := _) rfl (fun K hK => ?_) AllReadyH.nil
          have hsz8 := hBw1.size
          have b8 := Boxed2.new w1 23 (.int .i64 0) (.int .i64 0)
          go_simp
          have hBn2 := hBw1.alloc hBw1.size (Obj.cells #[Value.int IntKind.i64 (0), Value.int IntKind.i64 (0)] 23)
          clear hHeld
          refine hK.out _ _ (keep _ hBn2) (fun hHeld => ?_)
          clear hK K hBn
          try simp only [Act.put, List.setIfInBounds_toArray, List.set_cons_zero, List.set_cons_succ, List.getElem_toArray, List.getElem_cons_succ, List.getElem_cons_zero]
          refine wpAnyH_take (i := 12) (oi := _) (v := .bool false) rfl (by kernel_rfl) (by kernel_rfl) (by kernel_rfl) (fun _ _ _ h => h) (Or.inl ⟨by rfl, fun w' hSw => ?_⟩) hHeld ?_
          · obtain ⟨s1, s2, s3, s4, s5, s6⟩ := hSw
            go_simp
            try (intro hh; exfalso; omega)
          try simp only [Act.put, List.setIfInBounds_toArray, List.set_cons_zero, List.set_cons_succ, List.getElem_toArray, List.getElem_cons_succ, List.getElem_cons_zero]
          refine wpAnyH_done (by kernel_rfl) ?_ _
          clear hHeld hBw1 keep
          have hBn := hBn2
          clear hBn2
          generalize w1.heap.size = B8 at b8 hsz8 ⊢
          generalize w1.alloc (Obj.cells #[Value.int IntKind.i64 (0), Value.int IntKind.i64 (0)] 23) = W3 at b8 hBn ⊢
          have hg3 : W.grownBy W3 none := ⟨hBn.os, hBn.tape, hBn.output, hBn.size, fun k hk _ => hBn.block k hk⟩
          have hv3 := hv.kept hg3 (by simp)
          have hj3 := hj.kept hg3 (by simp)
          have bX3 := bX.kept hg3 (by simp)
          have hrow3 := hrow.kept hg3 (.inr (by simp [Value.ownBlock]))
          have hkf3 : ∀ B, KeepsFrom B W W3 := fun B => KeepsFrom.of_grownBy hg3 (fun j e => by cases e)
          have hB3 := hB.trans (hBn.mono hB.size)
          have hB3n := hBn.mono (Nat.le_trans hn₀ hB.size)
          have hc3 := hv3.cell
          have y0 := bX3.c0
          have y1 := bX3.c1
          have z0 := b8.c0
          have z1 := b8.c1
          obtain ⟨m0, m1, mf0, mf1⟩ := owns_last Hmz.out hrow3
          clear hv hj bX hrow hg3 b8 hBn hc hcj x0 x1 l0 l1 lf0 lf1 hB hcon
          gi_wp2_with (gi_at_builtin; refine wpListIn_append_own _ rfl _ _ 43 rfl w.heap.size 23 i0 (.agg #[.int .i64 0, .int .i64 0]) 2 16 Try.underlying43 hi hz0 hz1 hz2 rfl (by decide) _ _ _ rfl (hrow3.alloc _) ⟨W3.heap.size, 0, none⟩ 1 1 [.int .i64 x.1.1, .int .i64 x.1.2] rfl rfl (cell_two_new _ _ _ _) (by simp [Value.oneCell']) (by unfold maxLen; omega) (by omega) (by have := hB3.size; simp; omega) ?_; intro v' w1 hown' hgrow _; obtain ⟨g', cap', rfl⟩ := ownsRow_succ hown'; obtain ⟨hv1, hv2, hr2, hk2, hb2⟩ := hv3.appended (by decide) hrow3 hB3.size (by omega) hown' hgrow; have hc1 := hv1.cell; have hf1 := hv1.frozen)
          have hj1 : Boxed w1 w.heap.size 99 (.func (.func 101) #[] #[]) := (hj3.alloc _).kept hgrow (hj3.not_row (by decide) hrow3)
          exact ⟨(hkf3 _).trans (hk2.from _), hB3n.trans (hb2.mono hn₀), ⟨⟨_, hv2, by rw [Hs.out, flat_snoc]; simpa [Hmz.out] using hr2, tt⟩, hj1.other (by simp) _⟩, hB3.trans hb2⟩
        · go_simp
          have hBn := ((Below.refl W.heap.size W).drew).alloc (Nat.le_refl _) (Obj.cells #[Value.int IntKind.i64 0, Value.int IntKind.i64 0] 23)
          clear hHeld
          refine hK.out _ _ (keep _ hBn) (fun hHeld => ?_)
          clear hK K
          try simp only [Act.put, List.setIfInBounds_toArray, List.set_cons_zero, List.set_cons_succ, List.getElem_toArray, List.getElem_cons_succ, List.getElem_cons_zero]
          refine wpAnyH_ready (rs := [6]) (by kernel_rfl) (by simp) ?_
          refine AllReadyH.cons (o := _) rfl (fun K hK => ?_) AllReadyH.nil
          go_simp
          refine (hcon _).mono ?_
          rintro e w1 ⟨rfl, hb⟩
          obtain ⟨hkc, hkf⟩ := bcell hb
          have hBw1 := hBn.trans (hb.mono (by simp))
          clear hBn
          have hBn := hBw1
          clear hHeld
          refine hK.out _ _ (keep _ hBn) (fun hHeld => ?_)
          clear hK K
          try simp only [Act.put, List.setIfInBounds_toArray, List.set_cons_zero, List.set_cons_succ, List.getElem_toArray, List.getElem_cons_succ, List.getElem_cons_zero]
          refine wpAnyH_take (i := 7) (oi := _) (v := .tuple #[.agg #[.int .i64 0, .int .i64 0], .bool false]) rfl (by kernel_rfl) (by kernel_rfl) (by kernel_rfl) (fun _ _ _ h => h) (Or.inl ⟨by rfl, fun w' hSw => ?_⟩) hHeld ?_
          · obtain ⟨s1, s2, s3, s4, s5, s6⟩ := hSw
            go_simp
            try (intro hh; exfalso; omega)
          try simp only [Act.put, List.setIfInBounds_toArray, List.set_cons_zero, List.set_cons_succ, List.getElem_toArray, List.getElem_cons_succ, List.getElem_cons_zero]
          refine wpAnyH_take (i := 8) (oi := _) (v := .agg #[.int .i64 0, .int .i64 0]) rfl (by kernel_rfl) (by kernel_rfl) (by kernel_rfl) (fun _ _ _ h => h) (Or.inl ⟨by rfl, fun w' hSw => ?_⟩) hHeld ?_
          · obtain ⟨s1, s2, s3, s4, s5, s6⟩ := hSw
            go_simp
            try (intro hh; exfalso; omega)
          try simp only [Act.put, List.setIfInBounds_toArray, List.set_cons_zero, List.set_cons_succ, List.getElem_toArray, List.getElem_cons_succ, List.getElem_cons_zero]
          refine wpAnyH_take (i := 9) (oi := _) (v := .bool false) rfl (by kernel_rfl) (by kernel_rfl) (by kernel_rfl) (fun _ _ _ h => h) (Or.inl ⟨by rfl, fun w' hSw => ?_⟩) hHeld ?_
          · obtain ⟨s1, s2, s3, s4, s5, s6⟩ := hSw
            go_simp
            try (intro hh; exfalso; omega)
          try simp only [Act.put, List.setIfInBounds_toArray, List.set_cons_zero, List.set_cons_succ, List.getElem_toArray, List.getElem_cons_succ, List.getElem_cons_zero]
          refine wpAnyH_ready (rs := [11]) (by kernel_rfl) (by simp) ?_
          refine AllReadyH.cons (o := _) rfl (fun K hK => ?_) AllReadyH.nil
          have k0 := (hkc W.heap.size 0 (by simp)).trans (Boxed2.new W.drew 23 (.int .i64 0) (.int .i64 0)).c0
          have k1 := (hkc W.heap.size 1 (by simp)).trans (Boxed2.new W.drew 23 (.int .i64 0) (.int .i64 0)).c1
          have kf0 := (hkf W.heap.size 0 (by simp)).trans (Boxed2.new W.drew 23 (.int .i64 0) (.int .i64 0)).f0
          have kf1 := (hkf W.heap.size 1 (by simp)).trans (Boxed2.new W.drew 23 (.int .i64 0) (.int .i64 0)).f1
          have b8' : Boxed2 w1 W.heap.size 23 (.int .i64 0) (.int .i64 0) := (hb.block W.heap.size (by simp)).trans (Boxed2.new W.drew 23 (.int .i64 0) (.int .i64 0))
          have b8 := b8'.set2 (.int .i64 (0)) (.int .i64 (0))
          clear hkc hkf
          go_simp
          have hBn2 := (hBw1.setCell (p := ⟨W.heap.size, 0, none⟩) (Nat.le_refl _) (Value.int IntKind.i64 (0))).setCell (p := ⟨W.heap.size, 1, none⟩) (Nat.le_refl _) (Value.int IntKind.i64 (0))
          clear hHeld
          refine hK.out _ _ (keep _ hBn2) (fun hHeld => ?_)
          clear hK K hBn
          try simp only [Act.put, List.setIfInBounds_toArray, List.set_cons_zero, List.set_cons_succ, List.getElem_toArray, List.getElem_cons_succ, List.getElem_cons_zero]
          refine wpAnyH_take (i := 12) (oi := _) (v := .bool false) rfl (by kernel_rfl) (by kernel_rfl) (by kernel_rfl) (fun _ _ _ h => h) (Or.inl ⟨by rfl, fun w' hSw => ?_⟩) hHeld ?_
          · obtain ⟨s1, s2, s3, s4, s5, s6⟩ := hSw
            go_simp
            try (intro hh; exfalso; omega)
          try simp only [Act.put, List.setIfInBounds_toArray, List.set_cons_zero, List.set_cons_succ, List.getElem_toArray, List.getElem_cons_succ, List.getElem_cons_zero]
          refine wpAnyH_done (by kernel_rfl) ?_ _
          have hsz8 := Nat.le_refl W.heap.size
          have hBn := hBn2
          clear hHeld hBw1 keep k0 k1 kf0 kf1 hBn2 b8' hb
          generalize ((w1.setCell ⟨W.heap.size, 0, none⟩ (Value.int IntKind.i64 (0))).setCell ⟨W.heap.size, 1, none⟩ (Value.int IntKind.i64 (0))) = W3 at b8 hBn ⊢
          clear w1
          obtain ⟨B8, hB8⟩ : ∃ B, W.heap.size = B := ⟨_, rfl⟩
          have b8 : Boxed2 W3 B8 23 _ _ := hB8 ▸ b8
          have hsz8 : W.heap.size ≤ B8 := by omega
          simp only [hB8]
          clear hB8
          have hg3 : W.grownBy W3 none := ⟨hBn.os, hBn.tape, hBn.output, hBn.size, fun k hk _ => hBn.block k hk⟩
          have hv3 := hv.kept hg3 (by simp)
          have hj3 := hj.kept hg3 (by simp)
          have bX3 := bX.kept hg3 (by simp)
          have hrow3 := hrow.kept hg3 (.inr (by simp [Value.ownBlock]))
          have hkf3 : ∀ B, KeepsFrom B W W3 := fun B => KeepsFrom.of_grownBy hg3 (fun j e => by cases e)
          have hB3 := hB.trans (hBn.mono hB.size)
          have hB3n := hBn.mono (Nat.le_trans hn₀ hB.size)
          have hc3 := hv3.cell
          have y0 := bX3.c0
          have y1 := bX3.c1
          have z0 := b8.c0
          have z1 := b8.c1
          obtain ⟨m0, m1, mf0, mf1⟩ := owns_last Hmz.out hrow3
          clear hv hj bX hrow hg3 b8 hBn hc hcj x0 x1 l0 l1 lf0 lf1 hB hcon
          gi_wp2_with (gi_at_builtin; refine wpListIn_append_own _ rfl _ _ 43 rfl w.heap.size 23 i0 (.agg #[.int .i64 0, .int .i64 0]) 2 16 Try.underlying43 hi hz0 hz1 hz2 rfl (by decide) _ _ _ rfl (hrow3.alloc _) ⟨W3.heap.size, 0, none⟩ 1 1 [.int .i64 x.1.1, .int .i64 x.1.2] rfl rfl (cell_two_new _ _ _ _) (by simp [Value.oneCell']) (by unfold maxLen; omega) (by omega) (by have := hB3.size; simp; omega) ?_; intro v' w1 hown' hgrow _; obtain ⟨g', cap', rfl⟩ := ownsRow_succ hown'; obtain ⟨hv1, hv2, hr2, hk2, hb2⟩ := hv3.appended (by decide) hrow3 hB3.size (by omega) hown' hgrow; have hc1 := hv1.cell; have hf1 := hv1.frozen)
          have hj1 : Boxed w1 w.heap.size 99 (.func (.func 101) #[] #[]) := (hj3.alloc _).kept hgrow (hj3.not_row (by decide) hrow3)
          exact ⟨(hkf3 _).trans (hk2.from _), hB3n.trans (hb2.mono hn₀), ⟨⟨_, hv2, by rw [Hs.out, flat_snoc]; simpa [Hmz.out] using hr2, tt⟩, hj1.other (by simp) _⟩, hB3.trans hb2⟩
      · have hstep := Hstep.out
        rw [mstep_yes _ _ _ hyx] at hstep
        have Hs := Lib.hid hstep
        clear hstep Hstep
        have hcon := fun w => joined_yes y.1 y.2 x.1.1 x.1.2 (by omega) hy2 hx1 (by omega) (by omega) w
        refine wpAnyH_take (i := 0) (oi := _) (v := .func (.func 101) #[] #[]) rfl (by kernel_rfl) (by kernel_rfl) (by kernel_rfl) (fun _ _ _ h => h) (Or.inl ⟨by rfl, fun w' hSw => ?_⟩) hHeld ?_
        · obtain ⟨s1, s2, s3, s4, s5, s6⟩ := hSw
          go_simp
          try (intro hh; exfalso; omega)
        try simp only [Act.put, List.setIfInBounds_toArray, List.set_cons_zero, List.set_cons_succ, List.getElem_toArray, List.getElem_cons_succ, List.getElem_cons_zero]
        refine wpAnyH_take (i := 1) (oi := _) (v := .slice (some ⟨gb, 0, none⟩) (m + 1) cap) rfl (by kernel_rfl) (by kernel_rfl) (by kernel_rfl) (fun _ _ _ h => h) (Or.inl ⟨by rfl, fun w' hSw => ?_⟩) hHeld ?_
        · obtain ⟨s1, s2, s3, s4, s5, s6⟩ := hSw
          go_simp
          try (intro hh; exfalso; omega)
        try simp only [Act.put, List.setIfInBounds_toArray, List.set_cons_zero, List.set_cons_succ, List.getElem_toArray, List.getElem_cons_succ, List.getElem_cons_zero]
        refine wpAnyH_take (i := 2) (oi := _) (v := .int .i64 m) rfl (by kernel_rfl) (by kernel_rfl) (by kernel_rfl) (fun _ _ _ h => h) (Or.inl ⟨by rfl, fun w' hSw => ?_⟩) hHeld ?_
        · obtain ⟨s1, s2, s3, s4, s5, s6⟩ := hSw
          go_simp
          try (intro hh; exfalso; omega)
        try simp only [Act.put, List.setIfInBounds_toArray, List.set_cons_zero, List.set_cons_succ, List.getElem_toArray, List.getElem_cons_succ, List.getElem_cons_zero]
        refine wpAnyH_take (i := 3) (oi := _) (v := .pointer (some ⟨gb, m * 2, none⟩)) rfl (by kernel_rfl) (by kernel_rfl) (by kernel_rfl) (fun _ _ _ h => h) (Or.inl ⟨by rfl, fun w' hSw => ?_⟩) hHeld ?_
        · obtain ⟨s1, s2, s3, s4, s5, s6⟩ := hSw
          go_simp
          try (intro hh; exfalso; omega)
        try simp only [Act.put, List.setIfInBounds_toArray, List.set_cons_zero, List.set_cons_succ, List.getElem_toArray, List.getElem_cons_succ, List.getElem_cons_zero]
        refine wpAnyH_take (i := 4) (oi := _) (v := .agg #[.int .i64 y.1, .int .i64 y.2]) rfl (by kernel_rfl) (by kernel_rfl) (by kernel_rfl) (fun _ _ _ h => h) (Or.inl ⟨by rfl, fun w' hSw => ?_⟩) hHeld ?_
        · obtain ⟨s1, s2, s3, s4, s5, s6⟩ := hSw
          go_simp
          try (intro hh; exfalso; omega)
        try simp only [Act.put, List.setIfInBounds_toArray, List.set_cons_zero, List.set_cons_succ, List.getElem_toArray, List.getElem_cons_succ, List.getElem_cons_zero]
        refine wpAnyH_take (i := 5) (oi := _) (v := .agg #[.int .i64 x.1.1, .int .i64 x.1.2]) rfl (by kernel_rfl) (by kernel_rfl) (by kernel_rfl) (fun _ _ _ h => h) (Or.inl ⟨by rfl, fun w' hSw => ?_⟩) hHeld ?_
        · obtain ⟨s1, s2, s3, s4, s5, s6⟩ := hSw
          go_simp
          try (intro hh; exfalso; omega)
        try simp only [Act.put, List.setIfInBounds_toArray, List.set_cons_zero, List.set_cons_succ, List.getElem_toArray, List.getElem_cons_succ, List.getElem_cons_zero]
        refine wpAnyH_ready (rs := [6, 10]) (by kernel_rfl) (by simp) ?_
        refine AllReadyH.cons (o := _) rfl (fun K hK => ?_) (AllReadyH.cons (o := _) rfl (fun K hK => ?_) AllReadyH.nil)
        · go_simp
          refine (hcon _).mono ?_
          rintro e w1 ⟨rfl, hb⟩
          have hBn := ((Below.refl W.heap.size W).drew).trans hb
          clear hHeld
          refine hK.out _ _ (keep _ hBn) (fun hHeld => ?_)
          clear hK K
          try simp only [Act.put, List.setIfInBounds_toArray, List.set_cons_zero, List.set_cons_succ, List.getElem_toArray, List.getElem_cons_succ, List.getElem_cons_zero]
          refine wpAnyH_take (i := 7) (oi := _) (v := .tuple #[.agg #[.int .i64 (min y.1 x.1.1), .int .i64 (max y.2 x.1.2)], .bool true]) rfl (by kernel_rfl) (by kernel_rfl) (by kernel_rfl) (fun _ _ _ h => h) (Or.inl ⟨by rfl, fun w' hSw => ?_⟩) hHeld ?_
          · obtain ⟨s1, s2, s3, s4, s5, s6⟩ := hSw
            go_simp
            try (intro hh; exfalso; omega)
          try simp only [Act.put, List.setIfInBounds_toArray, List.set_cons_zero, List.set_cons_succ, List.getElem_toArray, List.getElem_cons_succ, List.getElem_cons_zero]
          refine wpAnyH_take (i := 8) (oi := _) (v := .agg #[.int .i64 (min y.1 x.1.1), .int .i64 (max y.2 x.1.2)]) rfl (by kernel_rfl) (by kernel_rfl) (by kernel_rfl) (fun _ _ _ h => h) (Or.inl ⟨by rfl, fun w' hSw => ?_⟩) hHeld ?_
          · obtain ⟨s1, s2, s3, s4, s5, s6⟩ := hSw
            go_simp
            try (intro hh; exfalso; omega)
          try simp only [Act.put, List.setIfInBounds_toArray, List.set_cons_zero, List.set_cons_succ, List.getElem_toArray, List.getElem_cons_succ, List.getElem_cons_zero]
          refine wpAnyH_take (i := 9) (oi := _) (v := .bool true) rfl (by kernel_rfl) (by kernel_rfl) (by kernel_rfl) (fun _ _ _ h => h) (Or.inl ⟨by rfl, fun w' hSw => ?_⟩) hHeld ?_
          · obtain ⟨s1, s2, s3, s4, s5, s6⟩ := hSw
            go_simp
            try (intro hh; exfalso; omega)
          try simp only [Act.put, List.setIfInBounds_toArray, List.set_cons_zero, List.set_cons_succ, List.getElem_toArray, List.getElem_cons_succ, List.getElem_cons_zero]
          refine wpAnyH_ready (rs := [10]) (by kernel_rfl) (by simp) ?_
          refine AllReadyH.cons (o := _) rfl (fun K hK => ?_) AllReadyH.nil
          go_simp
          have hBw1 := hBn
          clear hBn
          have hBn := hBw1.alloc hBw1.size (Obj.cells #[Value.int IntKind.i64 0, Value.int IntKind.i64 0] 23)
          clear hHeld
          refine hK.out _ _ (keep _ hBn) (fun hHeld => ?_)
          clear hK K
          try simp only [Act.put, List.setIfInBounds_toArray, List.set_cons_zero, List.set_cons_succ, List.getElem_toArray, List.getElem_cons_succ, List.getElem_cons_zero]
          refine wpAnyH_ready (rs := [11]) (by kernel_rfl) (by simp) ?_
          refine AllReadyH.cons (o := _) rfl (fun K hK => ?_) AllReadyH.nil
          have hsz8 := hBw1.size
          have b8 := Boxed2.new w1 23 (.int .i64 (min y.1 x.1.1)) (.int .i64 (max y.2 x.1.2))
          go_simp
          have hBn2 := hBw1.alloc hBw1.size (Obj.cells #[Value.int IntKind.i64 ((min y.1 x.1.1)), Value.int IntKind.i64 ((max y.2 x.1.2))] 23)
          clear hHeld
          refine hK.out _ _ (keep _ hBn2) (fun hHeld => ?_)
          clear hK K hBn
          try simp only [Act.put, List.setIfInBounds_toArray, List.set_cons_zero, List.set_cons_succ, List.getElem_toArray, List.getElem_cons_succ, List.getElem_cons_zero]
          refine wpAnyH_take (i := 12) (oi := _) (v := .bool true) rfl (by kernel_rfl) (by kernel_rfl) (by kernel_rfl) (fun _ _ _ h => h) (Or.inl ⟨by rfl, fun w' hSw => ?_⟩) hHeld ?_
          · obtain ⟨s1, s2, s3, s4, s5, s6⟩ := hSw
            go_simp
            try (intro hh; exfalso; omega)
          try simp only [Act.put, List.setIfInBounds_toArray, List.set_cons_zero, List.set_cons_succ, List.getElem_toArray, List.getElem_cons_succ, List.getElem_cons_zero]
          refine wpAnyH_done (by kernel_rfl) ?_ _
          clear hHeld hBw1 keep
          have hBn := hBn2
          clear hBn2
          generalize w1.heap.size = B8 at b8 hsz8 ⊢
          generalize w1.alloc (Obj.cells #[Value.int IntKind.i64 ((min y.1 x.1.1)), Value.int IntKind.i64 ((max y.2 x.1.2))] 23) = W3 at b8 hBn ⊢
          have hg3 : W.grownBy W3 none := ⟨hBn.os, hBn.tape, hBn.output, hBn.size, fun k hk _ => hBn.block k hk⟩
          have hv3 := hv.kept hg3 (by simp)
          have hj3 := hj.kept hg3 (by simp)
          have bX3 := bX.kept hg3 (by simp)
          have hrow3 := hrow.kept hg3 (.inr (by simp [Value.ownBlock]))
          have hkf3 : ∀ B, KeepsFrom B W W3 := fun B => KeepsFrom.of_grownBy hg3 (fun j e => by cases e)
          have hB3 := hB.trans (hBn.mono hB.size)
          have hB3n := hBn.mono (Nat.le_trans hn₀ hB.size)
          have hc3 := hv3.cell
          have y0 := bX3.c0
          have y1 := bX3.c1
          have z0 := b8.c0
          have z1 := b8.c1
          obtain ⟨m0, m1, mf0, mf1⟩ := owns_last Hmz.out hrow3
          clear hv hj bX hrow hg3 b8 hBn hc hcj x0 x1 l0 l1 lf0 lf1 hB hcon
          have hst := owns_set2 (z := (min y.1 x.1.1, max y.2 x.1.2)) Hmz.out hrow3
          have hgs1 := (hrow3.stored (m * 2) (.int .i64 (min y.1 x.1.1))).2
          have hgs2 := ((hrow3.stored (m * 2) (.int .i64 (min y.1 x.1.1))).1.stored (m * 2 + 1) (.int .i64 (max y.2 x.1.2))).2
          have hgb0 := (hrow3.lt gb rfl).1
          have hv4 := (hv3.kept hgs1 (hv3.not_row (by decide) hrow3)).kept hgs2 (hv3.not_row (by decide) hrow3)
          have hj4 := (hj3.kept hgs1 (hj3.not_row (by decide) hrow3)).kept hgs2 (hj3.not_row (by decide) hrow3)
          have HG := Lib.hid (And.intro hv4 (And.intro hj4 hst))
          clear hv4 hj4 hst hgs1 hgs2
          generalize hmn : min y.1 x.1.1 = mn at z0 HG ⊢
          generalize hmx : max y.2 x.1.2 = mx at z1 HG ⊢
          have Hmn := Lib.hid hmn
          have Hmx := Lib.hid hmx
          clear hmn hmx
          gi_wp2
          obtain ⟨hv4, hj4, hst⟩ := HG.out
          exact ⟨(hkf3 _).trans (((KeepsOthers.setCell _ _ _).trans (KeepsOthers.setCell _ _ _)).from _), (hB3n.setCell (p := ⟨gb, m * 2, none⟩) (Nat.le_trans hn₀ hgb0) _).setCell (p := ⟨gb, m * 2 + 1, none⟩) (Nat.le_trans hn₀ hgb0) _, ⟨⟨_, hv4, by rw [Hs.out, Hmn.out, Hmx.out]; simpa [Hmz.out] using hst, tt⟩, hj4⟩, (hB3.setCell (p := ⟨gb, m * 2, none⟩) hgb0 _).setCell (p := ⟨gb, m * 2 + 1, none⟩) hgb0 _⟩
        · go_simp
          have hBn := ((Below.refl W.heap.size W).drew).alloc (Nat.le_refl _) (Obj.cells #[Value.int IntKind.i64 0, Value.int IntKind.i64 0] 23)
          clear hHeld
          refine hK.out _ _ (keep _ hBn) (fun hHeld => ?_)
          clear hK K
          try simp only [Act.put, List.setIfInBounds_toArray, List.set_cons_zero, List.set_cons_succ, List.getElem_toArray, List.getElem_cons_succ, List.getElem_cons_zero]
          refine wpAnyH_ready (rs := [6]) (by kernel_rfl) (by simp) ?_
          refine AllReadyH.cons (o := _) rfl (fun K hK => ?_) AllReadyH.nil
          go_simp
          refine (hcon _).mono ?_
          rintro e w1 ⟨rfl, hb⟩
          obtain ⟨hkc, hkf⟩ := bcell hb
          have hBw1 := hBn.trans (hb.mono (by simp))
          clear hBn
          have hBn := hBw1
          clear hHeld
          refine hK.out _ _ (keep _ hBn) (fun hHeld => ?_)
          clear hK K
          try simp only [Act.put, List.setIfInBounds_toArray, List.set_cons_zero, List.set_cons_succ, List.getElem_toArray, List.getElem_cons_succ, List.getElem_cons_zero]
          refine wpAnyH_take (i := 7) (oi := _) (v := .tuple #[.agg #[.int .i64 (min y.1 x.1.1), .int .i64 (max y.2 x.1.2)], .bool true]) rfl (by kernel_rfl) (by kernel_rfl) (by kernel_rfl) (fun _ _ _ h => h) (Or.inl ⟨by rfl, fun w' hSw => ?_⟩) hHeld ?_
          · obtain ⟨s1, s2, s3, s4, s5, s6⟩ := hSw
            go_simp
            try (intro hh; exfalso; omega)
          try simp only [Act.put, List.setIfInBounds_toArray, List.set_cons_zero, List.set_cons_succ, List.getElem_toArray, List.getElem_cons_succ, List.getElem_cons_zero]
          refine wpAnyH_take (i := 8) (oi := _) (v := .agg #[.int .i64 (min y.1 x.1.1), .int .i64 (max y.2 x.1.2)]) rfl (by kernel_rfl) (by kernel_rfl) (by kernel_rfl) (fun _ _ _ h => h) (Or.inl ⟨by rfl, fun w' hSw => ?_⟩) hHeld ?_
          · obtain ⟨s1, s2, s3, s4, s5, s6⟩ := hSw
            go_simp
            try (intro hh; exfalso; omega)
          try simp only [Act.put, List.setIfInBounds_toArray, List.set_cons_zero, List.set_cons_succ, List.getElem_toArray, List.getElem_cons_succ, List.getElem_cons_zero]
          refine wpAnyH_take (i := 9) (oi := _) (v := .bool true) rfl (by kernel_rfl) (by kernel_rfl) (by kernel_rfl) (fun _ _ _ h => h) (Or.inl ⟨by rfl, fun w' hSw => ?_⟩) hHeld ?_
          · obtain ⟨s1, s2, s3, s4, s5, s6⟩ := hSw
            go_simp
            try (intro hh; exfalso; omega)
          try simp only [Act.put, List.setIfInBounds_toArray, List.set_cons_zero, List.set_cons_succ, List.getElem_toArray, List.getElem_cons_succ, List.getElem_cons_zero]
          refine wpAnyH_ready (rs := [11]) (by kernel_rfl) (by simp) ?_
          refine AllReadyH.cons (o := _) rfl (fun K hK => ?_) AllReadyH.nil
          have k0 := (hkc W.heap.size 0 (by simp)).trans (Boxed2.new W.drew 23 (.int .i64 0) (.int .i64 0)).c0
          have k1 := (hkc W.heap.size 1 (by simp)).trans (Boxed2.new W.drew 23 (.int .i64 0) (.int .i64 0)).c1
          have kf0 := (hkf W.heap.size 0 (by simp)).trans (Boxed2.new W.drew 23 (.int .i64 0) (.int .i64 0)).f0
          have kf1 := (hkf W.heap.size 1 (by simp)).trans (Boxed2.new W.drew 23 (.int .i64 0) (.int .i64 0)).f1
          have b8' : Boxed2 w1 W.heap.size 23 (.int .i64 0) (.int .i64 0) := (hb.block W.heap.size (by simp)).trans (Boxed2.new W.drew 23 (.int .i64 0) (.int .i64 0))
          have b8 := b8'.set2 (.int .i64 ((min y.1 x.1.1))) (.int .i64 ((max y.2 x.1.2)))
          clear hkc hkf
          go_simp
          have hBn2 := (hBw1.setCell (p := ⟨W.heap.size, 0, none⟩) (Nat.le_refl _) (Value.int IntKind.i64 ((min y.1 x.1.1)))).setCell (p := ⟨W.heap.size, 1, none⟩) (Nat.le_refl _) (Value.int IntKind.i64 ((max y.2 x.1.2)))
          clear hHeld
          refine hK.out _ _ (keep _ hBn2) (fun hHeld => ?_)
          clear hK K hBn
          try simp only [Act.put, List.setIfInBounds_toArray, List.set_cons_zero, List.set_cons_succ, List.getElem_toArray, List.getElem_cons_succ, List.getElem_cons_zero]
          refine wpAnyH_take (i := 12) (oi := _) (v := .bool true) rfl (by kernel_rfl) (by kernel_rfl) (by kernel_rfl) (fun _ _ _ h => h) (Or.inl ⟨by rfl, fun w' hSw => ?_⟩) hHeld ?_
          · obtain ⟨s1, s2, s3, s4, s5, s6⟩ := hSw
            go_simp
            try (intro hh; exfalso; omega)
          try simp only [Act.put, List.setIfInBounds_toArray, List.set_cons_zero, List.set_cons_succ, List.getElem_toArray, List.getElem_cons_succ, List.getElem_cons_zero]
          refine wpAnyH_done (by kernel_rfl) ?_ _
          have hsz8 := Nat.le_refl W.heap.size
          have hBn := hBn2
          clear hHeld hBw1 keep k0 k1 kf0 kf1 hBn2 b8' hb
          generalize ((w1.setCell ⟨W.heap.size, 0, none⟩ (Value.int IntKind.i64 ((min y.1 x.1.1)))).setCell ⟨W.heap.size, 1, none⟩ (Value.int IntKind.i64 ((max y.2 x.1.2)))) = W3 at b8 hBn ⊢
          clear w1
          obtain ⟨B8, hB8⟩ : ∃ B, W.heap.size = B := ⟨_, rfl⟩
          have b8 : Boxed2 W3 B8 23 _ _ := hB8 ▸ b8
          have hsz8 : W.heap.size ≤ B8 := by omega
          simp only [hB8]
          clear hB8
          have hg3 : W.grownBy W3 none := ⟨hBn.os, hBn.tape, hBn.output, hBn.size, fun k hk _ => hBn.block k hk⟩
          have hv3 := hv.kept hg3 (by simp)
          have hj3 := hj.kept hg3 (by simp)
          have bX3 := bX.kept hg3 (by simp)
          have hrow3 := hrow.kept hg3 (.inr (by simp [Value.ownBlock]))
          have hkf3 : ∀ B, KeepsFrom B W W3 := fun B => KeepsFrom.of_grownBy hg3 (fun j e => by cases e)
          have hB3 := hB.trans (hBn.mono hB.size)
          have hB3n := hBn.mono (Nat.le_trans hn₀ hB.size)
          have hc3 := hv3.cell
          have y0 := bX3.c0
          have y1 := bX3.c1
          have z0 := b8.c0
          have z1 := b8.c1
          obtain ⟨m0, m1, mf0, mf1⟩ := owns_last Hmz.out hrow3
          clear hv hj bX hrow hg3 b8 hBn hc hcj x0 x1 l0 l1 lf0 lf1 hB hcon
          have hst := owns_set2 (z := (min y.1 x.1.1, max y.2 x.1.2)) Hmz.out hrow3
          have hgs1 := (hrow3.stored (m * 2) (.int .i64 (min y.1 x.1.1))).2
          have hgs2 := ((hrow3.stored (m * 2) (.int .i64 (min y.1 x.1.1))).1.stored (m * 2 + 1) (.int .i64 (max y.2 x.1.2))).2
          have hgb0 := (hrow3.lt gb rfl).1
          have hv4 := (hv3.kept hgs1 (hv3.not_row (by decide) hrow3)).kept hgs2 (hv3.not_row (by decide) hrow3)
          have hj4 := (hj3.kept hgs1 (hj3.not_row (by decide) hrow3)).kept hgs2 (hj3.not_row (by decide) hrow3)
          have HG := Lib.hid (And.intro hv4 (And.intro hj4 hst))
          clear hv4 hj4 hst hgs1 hgs2
          generalize hmn : min y.1 x.1.1 = mn at z0 HG ⊢
          generalize hmx : max y.2 x.1.2 = mx at z1 HG ⊢
          have Hmn := Lib.hid hmn
          have Hmx := Lib.hid hmx
          clear hmn hmx
          gi_wp2
          obtain ⟨hv4, hj4, hst⟩ := HG.out
          exact ⟨(hkf3 _).trans (((KeepsOthers.setCell _ _ _).trans (KeepsOthers.setCell _ _ _)).from _), (hB3n.setCell (p := ⟨gb, m * 2, none⟩) (Nat.le_trans hn₀ hgb0) _).setCell (p := ⟨gb, m * 2 + 1, none⟩) (Nat.le_trans hn₀ hgb0) _, ⟨⟨_, hv4, by rw [Hs.out, Hmn.out, Hmx.out]; simpa [Hmz.out] using hst, tt⟩, hj4⟩, (hB3.setCell (p := ⟨gb, m * 2, none⟩) hgb0 _).setCell (p := ⟨gb, m * 2 + 1, none⟩) hgb0 _⟩
  case done =>
    rintro D ys W hD hys ⟨⟨⟨v, hv, hrow, -⟩, hj⟩, hB⟩ hK
    have hc := hv.cell
    gi_wp2
    refine ⟨by simp, .inl ⟨_, _, rfl, run_takeDeferred hK, ?_⟩⟩
    exact ⟨_, results_tmp rfl _ _ _, v, ys, rfl, hys, ownsRow_putObj hrow _ hK rfl, hB.trans (belowK_b (w := w) (Nat.le_refl _) W D _ _ (by simp at hD; omega) hK rfl rfl)⟩
  case stop =>
    rintro D c pre W _ _ h _
    exact h.elim
end Go.Proofs.Ytamelpfhbnkggaa

/-
  Layer 1 in this seat: Scale and Div.
-/
import Derived.Test.YtdohfpnnmppdkaaCbA
import Derived.Test.YtdohfpnnmppdkaaCbH
import Derived.BigQuiet
import Derived.Deep.QuietTactic
import Derived.Deep.RegionHeld3
namespace Go.Proofs.Ytdohfpnnmppdkaa
open Go.RowKit Go.Shelf
set_option linter.unusedSimpArgs false
set_option maxHeartbeats 400000 in
theorem hull_any (a b c d : Int) (w : World) :
    Calls Try.prog 128 #[.agg #[.int .i64 a, .int .i64 b], .agg #[.int .i64 c, .int .i64 d]] w fun e w' => e = .returned (.agg #[.int .i64 (min a c), .int .i64 (max b d)]) ∧ Below w.heap.size w w' := by
  go_enter Try.func128, Try.ntmps128
  go_wp2
  all_goals
    refine bodyPost_ret (v := .agg #[.int .i64 (min a c), .int .i64 (max b d)]) (by first | (simp [results, Try.results128, go_sem]; done) | (simp [results, Try.results128, go_sem]; omega)) rfl ⟨rfl, ?_⟩
    exact (((Below.refl _ _).alloc (Nat.le_refl _) _).alloc (by simp) _).alloc (by simp; omega) _
theorem Boxed2.set2 {W : World} {B : Nat} {t : TypeId} {u v : Value} (h : Boxed2 W B t u v) (u' v' : Value) : Boxed2 ((W.setCell ⟨B, 0, none⟩ u').setCell ⟨B, 1, none⟩ v') B t u' v' := by
  unfold Boxed2 at *
  simp [World.setCell, Array.getElem?_modify, h]
/-- rounded up -/
def up (x d : Int) : Int := -((-x) / d)
theorem tdiv_dn (x d : Int) (hd : 1 ≤ d) : (x.tmod d < 0 → x.tdiv d - 1 = x / d) ∧ (¬ x.tmod d < 0 → x.tdiv d = x / d) := by
  have h1 := Int.mul_tdiv_add_tmod x d
  have h2 := Int.tmod_lt_of_pos x (show 0 < d by omega)
  have h3 : -d < x.tmod d := by
    have := Int.tmod_lt_of_pos (-x) (show 0 < d by omega)
    rw [Int.neg_tmod] at this; omega
  generalize hq : x.tdiv d = q at *
  generalize hr : x.tmod d = r at *
  constructor
  · intro h
    symm
    rw [← h1]
    have : d * q + r = d * (q - 1) + (r + d) := by rw [Int.mul_sub]; omega
    rw [this, Int.mul_add_ediv_left _ _ (by omega), Int.ediv_eq_zero_of_lt (by omega) (by omega)]
    omega
  · intro h
    symm
    rw [← h1, Int.mul_add_ediv_left _ _ (by omega), Int.ediv_eq_zero_of_lt (by omega) (by omega)]
    omega
theorem dn_bd (x d B : Int) (hd : 1 ≤ d) (h1 : -B ≤ x) (h2 : x ≤ B) : -B ≤ x / d ∧ x / d ≤ B := by
  have hB : 0 ≤ B := by omega
  constructor
  · refine Int.le_ediv_of_mul_le (by omega) ?_
    have := Int.mul_le_mul_of_nonneg_left hd hB
    have h3 : -B * d = -(B * d) := Int.neg_mul _ _
    omega
  · refine Int.le_trans (Int.ediv_le_ediv (by omega) h2) ?_
    exact Int.ediv_le_self _ hB
set_option maxHeartbeats 400000 in
theorem ddn_any (d x : Int) (hd : 1 ≤ d) (hd' : d ≤ 4611686018427387904) (h1 : -4611686018427387904 ≤ x) (h2 : x ≤ 4611686018427387904) (w : World) :
    Calls Try.prog 125 #[.int .i64 d, .int .i64 x] w fun e w' => e = .returned (.int .i64 (x / d)) ∧ w' = w := by
  obtain ⟨ha, hb⟩ := tdiv_dn x d hd
  obtain ⟨hq1, hq2⟩ := dn_bd x d 4611686018427387904 hd h1 h2
  by_cases hn : x.tmod d < 0
  · have he := ha hn
    have hq : x.tdiv d = x / d + 1 := by omega
    have Hq := Lib.hid hq
    have hq3 : -4611686018427387904 ≤ x.tdiv d := by omega
    have hq4 : x.tdiv d ≤ 4611686018427387905 := by omega
    clear ha hb he hq
    go_enter Try.func125, Try.ntmps125
    go_wp2
    go_ret
    exact ⟨ret_int (by rw [Hq.out]; omega), rfl⟩
  · have hq := hb hn
    have Hq := Lib.hid hq
    have hn' : 0 ≤ x.tmod d := by omega
    have hq3 : -4611686018427387904 ≤ x.tdiv d := by omega
    have hq4 : x.tdiv d ≤ 4611686018427387904 := by omega
    clear ha hb hq
    go_enter Try.func125, Try.ntmps125
    go_wp2
    go_ret
    exact ⟨ret_int (by rw [Hq.out]), rfl⟩
set_option maxHeartbeats 400000 in
theorem dup_any (d x : Int) (hd : 1 ≤ d) (hd' : d ≤ 4611686018427387904) (h1 : -4611686018427387904 ≤ x) (h2 : x ≤ 4611686018427387904) (w : World) :
    Calls Try.prog 126 #[.int .i64 d, .int .i64 x] w fun e w' => e = .returned (.int .i64 (up x d)) ∧ w' = w := by
  have hc := fun w => ddn_any d (-x) hd hd' (by omega) (by omega) w
  obtain ⟨hq1, hq2⟩ := dn_bd (-x) d 4611686018427387904 hd (by omega) (by omega)
  unfold up
  generalize -x / d = q at hc hq1 hq2 ⊢
  go_enter Try.func126, Try.ntmps126
  go_wp2_with fail
  refine (hc _).mono ?_
  rintro e w' ⟨rfl, rfl⟩
  go_wp2_with fail
  go_ret
  exact ⟨rfl, rfl⟩
set_option maxHeartbeats 1000000 in
theorem outward_div (d a b : Int) (hd : 1 ≤ d) (hd' : d ≤ 4611686018427387904) (h1 : -4611686018427387904 ≤ a) (h1' : a ≤ 4611686018427387904) (h2 : -4611686018427387904 ≤ b) (h2' : b ≤ 4611686018427387904) (w : World) :
    Calls Try.prog 124 #[.func (.func 125) #[.int .i64 d] #[], .func (.func 126) #[.int .i64 d] #[], .agg #[.int .i64 a, .int .i64 b]] w fun e w' => e = .returned (.agg #[.int .i64 (a / d), .int .i64 (up b d)]) ∧ Below w.heap.size w w' := by
  have c1 := fun w => ddn_any d a hd hd' h1 h1' w
  have c2 := fun w => dup_any d b hd hd' h2 h2' w
  generalize a / d = x at c1 ⊢
  generalize up b d = y at c2 ⊢
  go_enter Try.func124, Try.ntmps124
  go_wp2_with fail
  go_region_held3 (fun w' => w'.cell? ⟨w.heap.size, 0, none⟩ = some (.int .i64 a) ∧ w'.cell? ⟨w.heap.size, 1, none⟩ = some (.int .i64 b)) (simp [go_sem, World.cell?_alloc_past])
    (first
      | (go_at_call 125; refine (c1 _).mono ?_; rintro e w' ⟨rfl, rfl⟩)
      | (go_at_call 126; refine (c2 _).mono ?_; rintro e w' ⟨rfl, rfl⟩))
  all_goals
    go_wp2
    refine bodyPost_ret (v := .agg #[.int .i64 x, .int .i64 y]) (by simp [results, Try.results124, go_sem]) rfl ⟨rfl, ?_⟩
    exact (((Below.refl _ _).alloc (Nat.le_refl _) _).alloc (by simp) _).drew
/-- the ends of a quotient by one number, rounded outward -/
def qLo (a b d : Int) : Int := if d < 0 then (-b) / (-d) else a / d
def qHi (a b d : Int) : Int := if d < 0 then up (-a) (-d) else up b d
set_option maxHeartbeats 1000000 in
theorem quotient_any (a b d : Int) (hd : d ≠ 0) (d1 : -1073741824 ≤ d) (d2 : d ≤ 1073741824) (h1 : -1073741824 ≤ a) (h1' : a ≤ 1073741824) (h2 : -1073741824 ≤ b) (h2' : b ≤ 1073741824) (w : World) :
    Calls Try.prog 129 #[.agg #[.int .i64 a, .int .i64 b], .int .i64 d] w fun e w' => e = .returned (.agg #[.int .i64 (qLo a b d), .int .i64 (qHi a b d)]) ∧ Below w.heap.size w w' := by
  by_cases hn : d < 0
  · rw [show qLo a b d = (-b) / (-d) from if_pos hn, show qHi a b d = up (-a) (-d) from if_pos hn]
    have hc := fun w => outward_div (-d) (-b) (-a) (by omega) (by omega) (by omega) (by omega) (by omega) (by omega) w
    generalize -b / -d = x at hc ⊢
    generalize up (-a) (-d) = y at hc ⊢
    clear hd
    go_enter Try.func129, Try.ntmps129
    go_wp2_with fail
    refine (hc _).mono ?_
    rintro e w1 ⟨rfl, hb⟩
    obtain ⟨hk, hf⟩ := bcell hb
    go_wp2_with fail
    refine bodyPost_ret (v := .agg #[.int .i64 x, .int .i64 y]) (by simp [results, Try.results129, go_sem, hk]) rfl ⟨rfl, ?_⟩
    exact ((((Below.refl _ _).alloc (Nat.le_refl _) _).alloc (by simp) _).trans (hb.mono (by simp; omega))).setCell (by simp) _ |>.setCell (by simp) _
  · rw [show qLo a b d = a / d from if_neg hn, show qHi a b d = up b d from if_neg hn]
    have hd1 : 1 ≤ d := by omega
    have hc := fun w => outward_div d a b hd1 (by omega) (by omega) (by omega) (by omega) (by omega) w
    generalize a / d = x at hc ⊢
    generalize up b d = y at hc ⊢
    clear hd
    go_enter Try.func129, Try.ntmps129
    go_wp2_with fail
    refine (hc _).mono ?_
    rintro e w1 ⟨rfl, hb⟩
    obtain ⟨hk, hf⟩ := bcell hb
    go_wp2_with fail
    refine bodyPost_ret (v := .agg #[.int .i64 x, .int .i64 y]) (by simp [results, Try.results129, go_sem, hk]) rfl ⟨rfl, ?_⟩
    exact ((((Below.refl _ _).alloc (Nat.le_refl _) _).alloc (by simp) _).trans (hb.mono (by simp; omega))).setCell (by simp) _ |>.setCell (by simp) _
theorem foldl_take (f : Int → Int → Int) (a : Int) (l : List Int) (k : Nat) (h : k < l.length) : (l.take (k + 1)).foldl f a = f ((l.take k).foldl f a) (l[k]?.getD 0) := by
  rw [List.take_succ_eq_append_getElem h, List.foldl_append]; simp [h]
theorem Boxed2.set2_eq {W : World} {B : Nat} {t : TypeId} {u v : Value} (h : Boxed2 W B t u v) {p q p' q' : Int} (hp : p = p') (hq : q = q') : Boxed2 ((W.setCell ⟨B, 0, none⟩ (.int .i64 p)).setCell ⟨B, 1, none⟩ (.int .i64 q)) B t (.int .i64 p') (.int .i64 q') := by
  subst hp; subst hq; exact h.set2 _ _
/-- 'ends' of some numbers -/
theorem ends_any (a : Int) (l : List Int) (b off cap : Nat) (hl : l.length ≤ 1000) (w : World) (hb : b < w.heap.size) (hc : ∀ k, k < l.length → w.cell? ⟨b, off + k, none⟩ = some (.int .i64 (l[k]?.getD 0))) :
    Calls Try.prog 127 #[.int .i64 a, .slice (some ⟨b, off, none⟩) l.length cap] w fun e w' => e = .returned (.agg #[.int .i64 (l.foldl min a), .int .i64 (l.foldl max a)]) ∧ Below w.heap.size w w' := by
  have HC := Lib.hid hc
  clear hc
  generalize hL : l.length = len at HC hl ⊢
  have HL := Lib.hid hL
  clear hL
  go_enter Try.func127, Try.ntmps127
  go_wp2
  have b5 := Boxed2.new (w.alloc (Obj.cells #[Value.int IntKind.i64 0, Value.int IntKind.i64 0] 23)) 23 (.int .i64 a) (.int .i64 a)
  have b4' := Boxed2.new w 23 (.int .i64 0) (.int .i64 0)
  have b4 : Boxed2 ((w.alloc (Obj.cells #[Value.int IntKind.i64 0, Value.int IntKind.i64 0] 23)).alloc (Obj.cells #[Value.int IntKind.i64 a, Value.int IntKind.i64 a] 23)) w.heap.size 23 (.int .i64 0) (.int .i64 0) := (Below.heap_alloc _ _ _ (by simp)).trans b4'
  rw [World.size_alloc] at b5
  have hB0 : Below w.heap.size w ((w.alloc (Obj.cells #[Value.int IntKind.i64 0, Value.int IntKind.i64 0] 23)).alloc (Obj.cells #[Value.int IntKind.i64 a, Value.int IntKind.i64 a] 23)) := ((Below.refl _ w).alloc (Nat.le_refl _) _).alloc (by simp) _
  go_loopw [13] (fun i wr => ∃ k : Nat, k ≤ len ∧ i = .int .i64 k ∧ Boxed2 wr (w.heap.size + 1) 23 (.int .i64 ((l.take k).foldl min a)) (.int .i64 ((l.take k).foldl max a)) ∧ Boxed2 wr w.heap.size 23 (.int .i64 0) (.int .i64 0) ∧ Below w.heap.size w wr) (fun i _ => len - (intOf i).toNat)
  case atStart => exact ⟨0, Nat.zero_le _, rfl, b5, b4, hB0⟩
  case round =>
    clear b5 b4 b4' hB0
    obtain ⟨k, hk, rfl, b5, b4, hB⟩ := hrel
    by_cases hlt : k < len
    · have hck := (hB.cell (p := ⟨b, off + k, none⟩) hb).trans (HC.out k hlt)
      have hs1 : (l.take (k + 1)).foldl min a = min ((l.take k).foldl min a) (l[k]?.getD 0) := foldl_take _ _ _ _ (by rw [HL.out]; exact hlt)
      have hs2 : (l.take (k + 1)).foldl max a = max ((l.take k).foldl max a) (l[k]?.getD 0) := foldl_take _ _ _ _ (by rw [HL.out]; exact hlt)
      have Hs1 := Lib.hid hs1
      have Hs2 := Lib.hid hs2
      clear hs1 hs2
      generalize (l.take k).foldl min a = mn at b5 Hs1
      generalize (l.take k).foldl max a = mx at b5 Hs2
      generalize l[k]?.getD 0 = z at hck Hs1 Hs2
      have x0 := b5.c0
      have x1 := b5.c1
      have xf0 := b5.f0
      have xf1 := b5.f1
      go_wp2
      all_goals
        go_roundw
        case rel =>
          refine ⟨k + 1, by omega, by go_num, ?_, ?_, (hB.setCell (p := ⟨w.heap.size + 1, 0, none⟩) (by simp) _).setCell (p := ⟨w.heap.size + 1, 1, none⟩) (by simp) _⟩
          · rw [Hs1.out, Hs2.out]
            exact Boxed2.set2_eq (W := wr) b5 (by omega) (by omega)
          · exact (Below.heap_setCell _ _ _ _ (by simp)).trans ((Below.heap_setCell _ _ _ _ (by simp)).trans b4)
        case measure => simp [intOf]; omega
    · obtain rfl : k = len := by omega
      have e1 : l.take k = l := List.take_of_length_le (by rw [HL.out]; omega)
      rw [e1] at b5
      have x0 := b5.c0
      have x1 := b5.c1
      have y0 := b4.c0
      have y1 := b4.c1
      have yf0 := b4.f0
      have yf1 := b4.f1
      generalize hmn : l.foldl min a = mn at b5 x0
      generalize hmx : l.foldl max a = mx at b5 x1
      have Hmn := Lib.hid hmn
      have Hmx := Lib.hid hmx
      clear hmn hmx e1
      go_wp2
      refine bodyPost_ret (v := .agg #[.int .i64 mn, .int .i64 mx]) (by simp [results, Try.results127, go_sem, y0, y1]) rfl ⟨by rw [Hmn.out, Hmx.out], ?_⟩
      exact (hB.setCell (p := ⟨w.heap.size, 0, none⟩) (Nat.le_refl _) _).setCell (p := ⟨w.heap.size, 1, none⟩) (Nat.le_refl _) _
theorem prod_bd (x y : Int) (h1 : -1073741824 ≤ x) (h2 : x ≤ 1073741824) (h3 : -1073741824 ≤ y) (h4 : y ≤ 1073741824) : -1152921504606846976 ≤ x * y ∧ x * y ≤ 1152921504606846976 := by
  have e1 : (x * y).natAbs = x.natAbs * y.natAbs := Int.natAbs_mul x y
  have e2 : x.natAbs * y.natAbs ≤ 1073741824 * 1073741824 := Nat.mul_le_mul (by omega) (by omega)
  omega
def divS (a b c d : Int) : R3 :=
  if vB a b = true ∧ vB c d = true then
    if c ≤ 0 ∧ 0 ≤ d then ⟨0, 0, 9⟩ else ⟨min (qLo a b c) (qLo a b d), max (qHi a b c) (qHi a b d), 0⟩
  else ⟨0, 0, 2⟩
set_option maxHeartbeats 2000000 in
theorem div_good (a b c d : Int) (h1 : vB a b = true) (h2 : vB c d = true) (hz : ¬ (c ≤ 0 ∧ 0 ≤ d)) (w : World) :
    Calls Try.prog 63 #[.agg #[.int .i64 a, .int .i64 b], .agg #[.int .i64 c, .int .i64 d]] w fun e w' => e = .returned (.tuple #[.agg #[.int .i64 (min (qLo a b c) (qLo a b d)), .int .i64 (max (qHi a b c) (qHi a b d))], .int .i64 0]) ∧ Below w.heap.size w w' := by
  have c1 := fun w => checkBoth_ok a b c d h1 h2 w
  obtain ⟨h3, h4, h5⟩ := (vB_iff a b).1 h1
  obtain ⟨h6, h7, h8⟩ := (vB_iff c d).1 h2
  have q1 := fun w => quotient_any a b c (by omega) (by omega) (by omega) (by omega) (by omega) (by omega) (by omega) w
  have q2 := fun w => quotient_any a b d (by omega) (by omega) (by omega) (by omega) (by omega) (by omega) (by omega) w
  have q3 := fun w => hull_any (qLo a b c) (qHi a b c) (qLo a b d) (qHi a b d) w
  generalize min (qLo a b c) (qLo a b d) = lo at q3 ⊢
  generalize max (qHi a b c) (qHi a b d) = hi at q3 ⊢
  generalize qLo a b c = x1 at q1 q3
  generalize qHi a b c = x2 at q1 q3
  generalize qLo a b d = y1 at q2 q3
  generalize qHi a b d = y2 at q2 q3
  clear h1 h2
  have hcase : 0 < c ∨ (c ≤ 0 ∧ d < 0) := by omega
  clear hz
  rcases hcase with hz | ⟨hz, hz'⟩
  all_goals
    go_enter Try.func63, Try.ntmps63
    go_wp2_with fail
    refine (c1 _).mono ?_
    rintro e w1 ⟨rfl, hb⟩
    obtain ⟨hc, hf⟩ := bcell hb
    have k0 : w1.cell? ⟨w.heap.size, 0, none⟩ = some (.int .i64 a) := by rw [hc _ _ (by simp; omega)]; simp [go_sem]
    have k1 : w1.cell? ⟨w.heap.size, 1, none⟩ = some (.int .i64 b) := by rw [hc _ _ (by simp; omega)]; simp [go_sem]
    have k2 : w1.cell? ⟨w.heap.size + 1, 0, none⟩ = some (.int .i64 c) := by rw [hc _ _ (by simp)]; simp [go_sem]
    have k3 : w1.cell? ⟨w.heap.size + 1, 1, none⟩ = some (.int .i64 d) := by rw [hc _ _ (by simp)]; simp [go_sem]
    have k4 : w1.cell? ⟨w.heap.size + 2, 0, none⟩ = some (.int .i64 0) := by rw [hc _ _ (by simp)]; simp [go_sem]
    have k5 : w1.cell? ⟨w.heap.size + 2, 1, none⟩ = some (.int .i64 0) := by rw [hc _ _ (by simp)]; simp [go_sem]
    have f4 : w1.frozen? ⟨w.heap.size + 2, 0, none⟩ = false := by rw [hf _ _ (by simp)]; simp [go_sem]
    have f5 : w1.frozen? ⟨w.heap.size + 2, 1, none⟩ = false := by rw [hf _ _ (by simp)]; simp [go_sem]
    have hz0 : w.heap.size + 3 ≤ w1.heap.size := by have := hb.size; simp at this; omega
    have hB1 : Below w.heap.size w w1 := ((((Below.refl _ _).alloc (Nat.le_refl _) _).alloc (by simp) _).alloc (by simp; omega) _).trans (hb.mono (by simp; omega))
    clear hc hf hb
    go_wp2_with fail
    go_region_held3 (fun w' => w'.cell? ⟨w.heap.size, 0, none⟩ = some (.int .i64 a) ∧ w'.cell? ⟨w.heap.size, 1, none⟩ = some (.int .i64 b) ∧ w'.cell? ⟨w.heap.size + 1, 0, none⟩ = some (.int .i64 c) ∧ w'.cell? ⟨w.heap.size + 1, 1, none⟩ = some (.int .i64 d)) (simp [go_sem, *])
      (first
        | (go_at_call 129; refine (q1 _).mono ?_; clear q1; rintro e w' ⟨rfl, hb⟩; have hcc := (fun b o (h : b < w.heap.size + 3) => hb.cell (p := ⟨b, o, none⟩) (Nat.lt_of_lt_of_le h (by assumption))); have hff := (fun b o (h : b < w.heap.size + 3) => hb.frozen (p := ⟨b, o, none⟩) (Nat.lt_of_lt_of_le h (by assumption))); have hz1 : w.heap.size + 3 ≤ w'.heap.size := (Nat.le_trans (by assumption) hb.size))
        | (go_at_call 129; refine (q2 _).mono ?_; clear q2; rintro e w' ⟨rfl, hb⟩; have hcc := (fun b o (h : b < w.heap.size + 3) => hb.cell (p := ⟨b, o, none⟩) (Nat.lt_of_lt_of_le h (by assumption))); have hff := (fun b o (h : b < w.heap.size + 3) => hb.frozen (p := ⟨b, o, none⟩) (Nat.lt_of_lt_of_le h (by assumption))); have hz1 : w.heap.size + 3 ≤ w'.heap.size := (Nat.le_trans (by assumption) hb.size))
        | (go_at_call 128; refine (q3 _).mono ?_; clear q3; rintro e w' ⟨rfl, hb⟩; have hcc := (fun b o (h : b < w.heap.size + 3) => hb.cell (p := ⟨b, o, none⟩) (Nat.lt_of_lt_of_le h (by assumption))); have hff := (fun b o (h : b < w.heap.size + 3) => hb.frozen (p := ⟨b, o, none⟩) (Nat.lt_of_lt_of_le h (by assumption))); have hz1 : w.heap.size + 3 ≤ w'.heap.size := (Nat.le_trans (by assumption) hb.size)))
    all_goals
      go_wp2
      refine bodyPost_ret (v := .tuple #[.agg #[.int .i64 lo, .int .i64 hi], .int .i64 0]) (by simp [results, Try.results63, go_sem, *]) rfl ⟨rfl, ?_⟩
      repeat (first | exact hB1 | refine Below.drew ?_ | refine Below.setCell ?_ (by simp; omega) _ | refine chainB (by assumption) ?_)
set_option maxHeartbeats 1000000 in
theorem div_any (a b c d : Int) (w : World) :
    Calls Try.prog 63 #[.agg #[.int .i64 a, .int .i64 b], .agg #[.int .i64 c, .int .i64 d]] w fun e w' => e = .returned (.tuple #[.agg #[.int .i64 (divS a b c d).lo, .int .i64 (divS a b c d).hi], .int .i64 (divS a b c d).e]) ∧ Below w.heap.size w w' := by
  by_cases h : vB a b = true ∧ vB c d = true
  · by_cases hz : c ≤ 0 ∧ 0 ≤ d
    · have k : divS a b c d = ⟨0, 0, 9⟩ := by unfold divS; rw [if_pos h, if_pos hz]
      rw [k]
      have c1 := fun w => checkBoth_ok a b c d h.1 h.2 w
      obtain ⟨hz1, hz2⟩ := hz
      clear h k
      go_enter Try.func63, Try.ntmps63
      go_wp2_with fail
      refine (c1 _).mono ?_
      rintro e w1 ⟨rfl, hb⟩
      obtain ⟨hc, hf⟩ := bcell hb
      go_wp2_with fail
      refine bodyPost_ret (v := .tuple #[.agg #[.int .i64 0, .int .i64 0], .int .i64 9]) (by simp [results, Try.results63, go_sem, hc]) rfl ⟨rfl, ?_⟩
      exact ((((((Below.refl _ _).alloc (Nat.le_refl _) _).alloc (by simp) _).alloc (by simp; omega) _).trans (hb.mono (by simp; omega))).setCell (by simp; omega) _).setCell (by simp; omega) _
    · exact (div_good a b c d h.1 h.2 hz w).mono fun e w' ⟨he, hb⟩ => ⟨by rw [he]; unfold divS; rw [if_pos h, if_neg hz], hb⟩
  · have k : divS a b c d = ⟨0, 0, 2⟩ := if_neg h
    rw [k]
    have c1 := fun w => checkBoth_bad a b c d h w
    clear h k
    go_enter Try.func63, Try.ntmps63
    go_wp2_with fail
    refine (c1 _).mono ?_
    rintro e w1 ⟨rfl, hb⟩
    obtain ⟨hc, hf⟩ := bcell hb
    go_wp2_with fail
    refine bodyPost_ret (v := .tuple #[.agg #[.int .i64 0, .int .i64 0], .int .i64 2]) (by simp [results, Try.results63, go_sem, hc]) rfl ⟨rfl, ?_⟩
    exact ((((((Below.refl _ _).alloc (Nat.le_refl _) _).alloc (by simp) _).alloc (by simp; omega) _).trans (hb.mono (by simp; omega))).setCell (by simp; omega) _).setCell (by simp; omega) _
def scaleS (a b n d : Int) : R3 :=
  if vB a b = true then
    if (-1073741824 ≤ n ∧ n ≤ 1073741824) ∧ 1 ≤ d ∧ d ≤ 1073741824 then fit (min (a * n) (b * n) / d) (up (max (a * n) (b * n)) d) else ⟨0, 0, 3⟩
  else ⟨0, 0, 2⟩
set_option maxHeartbeats 1000000 in
theorem scale_any (a b n d : Int) (w : World) :
    Calls Try.prog 62 #[.agg #[.int .i64 a, .int .i64 b], .int .i64 n, .int .i64 d] w fun e w' => e = .returned (.tuple #[.agg #[.int .i64 (scaleS a b n d).lo, .int .i64 (scaleS a b n d).hi], .int .i64 (scaleS a b n d).e]) ∧ Below w.heap.size w w' := by
  by_cases h : vB a b = true
  · have c1 := fun w => check_ok a b h w
    obtain ⟨h3, h4, h5⟩ := (vB_iff a b).1 h
    by_cases hn : (-1073741824 ≤ n ∧ n ≤ 1073741824) ∧ 1 ≤ d ∧ d ≤ 1073741824
    · have k : scaleS a b n d = fit (min (a * n) (b * n) / d) (up (max (a * n) (b * n)) d) := by unfold scaleS; rw [if_pos h, if_pos hn]
      rw [k]
      obtain ⟨⟨hn1, hn2⟩, hn3, hn4⟩ := hn
      obtain ⟨p1, p2⟩ := prod_bd a n (by omega) (by omega) (by omega) (by omega)
      obtain ⟨p3, p4⟩ := prod_bd b n (by omega) (by omega) (by omega) (by omega)
      have c2 := fun bl W hbl hcl => ends_any (a * n) [b * n] bl 0 1 (by simp) W hbl hcl
      change ∀ bl W, _ → _ → Calls Try.prog 127 #[.int .i64 (a * n), .slice (some ⟨bl, 0, none⟩) 1 1] W fun e w' => e = .returned (.agg #[.int .i64 (min (a * n) (b * n)), .int .i64 (max (a * n) (b * n))]) ∧ Below W.heap.size W w' at c2
      have c3 := fun w => outward_div d (min (a * n) (b * n)) (max (a * n) (b * n)) hn3 (by omega) (by omega) (by omega) (by omega) (by omega) w
      have c4 := fun w => fitting_any (min (a * n) (b * n) / d) (up (max (a * n) (b * n)) d) w
      generalize fit (min (a * n) (b * n) / d) (up (max (a * n) (b * n)) d) = r at c4 ⊢
      generalize min (a * n) (b * n) / d = x1 at c3 c4
      generalize up (max (a * n) (b * n)) d = x2 at c3 c4
      generalize min (a * n) (b * n) = y1 at c2 c3
      generalize max (a * n) (b * n) = y2 at c2 c3
      clear h k
      go_enter Try.func62, Try.ntmps62
      go_wp2_with fail
      refine (c1 _).mono ?_
      rintro e w1 ⟨rfl, hb⟩
      obtain ⟨hc, hf⟩ := bcell hb
      go_wp2_with fail
      refine (c2 _ _ ?h1 ?h2).mono ?_
      case h1 => simp
      case h2 =>
        intro k hk
        match k, hk with
        | 0, _ => simp
      rintro e w2 ⟨rfl, hb2⟩
      replace hb := hb.trans (((Below.refl _ _).alloc (Nat.le_refl _) _).trans (hb2.mono (by simp)) |>.mono hb.size)
      clear hc hf hb2
      obtain ⟨hc, hf⟩ := bcell hb
      go_wp2_with fail
      refine (c3 _).mono ?_
      rintro e w3 ⟨rfl, hb2⟩
      replace hb := hb.trans (hb2.mono hb.size)
      clear hc hf hb2
      obtain ⟨hc, hf⟩ := bcell hb
      go_wp2_with fail
      refine (c4 _).mono ?_
      rintro e w4 ⟨rfl, hb2⟩
      replace hb := hb.trans (hb2.mono hb.size)
      clear hc hf hb2
      obtain ⟨hc, hf⟩ := bcell hb
      go_wp2_with fail
      refine bodyPost_ret (v := .tuple #[.agg #[.int .i64 r.lo, .int .i64 r.hi], .int .i64 r.e]) (by simp [results, Try.results62, go_sem, hc]) rfl ⟨rfl, ?_⟩
      exact ((((((Below.refl _ _).alloc (Nat.le_refl _) _).alloc (by simp) _).trans (hb.mono (by simp; omega))).setCell (by simp) _).setCell (by simp) _)
    · have k : scaleS a b n d = ⟨0, 0, 3⟩ := by unfold scaleS; rw [if_pos h, if_neg hn]
      rw [k]
      have hn' : n < -1073741824 ∨ (-1073741824 ≤ n ∧ 1073741824 < n) ∨ (-1073741824 ≤ n ∧ n ≤ 1073741824 ∧ d < 1) ∨ (-1073741824 ≤ n ∧ n ≤ 1073741824 ∧ 1 ≤ d ∧ 1073741824 < d) := by omega
      clear h k hn
      rcases hn' with hn | ⟨hn, hn'⟩ | ⟨hn, hn', hn''⟩ | ⟨hn, hn', hn'', hn3⟩
      all_goals
        go_enter Try.func62, Try.ntmps62
        go_wp2_with fail
        refine (c1 _).mono ?_
        rintro e w1 ⟨rfl, hb⟩
        obtain ⟨hc, hf⟩ := bcell hb
        go_wp2_with fail
        refine bodyPost_ret (v := .tuple #[.agg #[.int .i64 0, .int .i64 0], .int .i64 3]) (by simp [results, Try.results62, go_sem, hc]) rfl ⟨rfl, ?_⟩
        exact ((((((Below.refl _ _).alloc (Nat.le_refl _) _).alloc (by simp) _).trans (hb.mono (by simp; omega))).setCell (by simp) _).setCell (by simp) _)
  · have k : scaleS a b n d = ⟨0, 0, 2⟩ := if_neg h
    rw [k]
    have c1 := fun w => check_bad a b h w
    clear h k
    go_enter Try.func62, Try.ntmps62
    go_wp2_with fail
    refine (c1 _).mono ?_
    rintro e w1 ⟨rfl, hb⟩
    obtain ⟨hc, hf⟩ := bcell hb
    go_wp2_with fail
    refine bodyPost_ret (v := .tuple #[.agg #[.int .i64 0, .int .i64 0], .int .i64 2]) (by simp [results, Try.results62, go_sem, hc]) rfl ⟨rfl, ?_⟩
    exact ((((((Below.refl _ _).alloc (Nat.le_refl _) _).alloc (by simp) _).trans (hb.mono (by simp; omega))).setCell (by simp) _).setCell (by simp) _)
end Go.Proofs.Ytdohfpnnmppdkaa

/-
  Rounding, quotients by one number, and the ends of some numbers.
-/
import Derived.Test.YtamelpfhbnkggaaBase
import Derived.Test.YtamelpfhbnkggaaMerged
import Derived.Deep.RegionHeld3
import Derived.Deep.QuietTactic
import Derived.BigQuiet
namespace Go.Proofs.Ytamelpfhbnkggaa
open Go.RowKit Go.Shelf

/-- rounded down, for d from 1 on -/
def dn (x d : Int) : Int := x / d
/-- rounded up -/
def up (x d : Int) : Int := -((-x) / d)
theorem tdiv_dn (x d : Int) (hd : 1 ≤ d) : (x.tmod d < 0 → x.tdiv d - 1 = x / d) ∧ (¬ x.tmod d < 0 → x.tdiv d = x / d) := by
  have h1 := Int.mul_tdiv_add_tmod x d
  have h2 := Int.tmod_lt_of_pos x (show 0 < d by omega)
  have h3 : -d < x.tmod d := by
    have := Int.tmod_lt_of_pos (-x) (show 0 < d by omega)
    rw [Int.neg_tmod] at this; omega
  generalize hq : x.tdiv d = q at *
  generalize hr : x.tmod d = r at *
  constructor
  · intro h
    symm
    rw [← h1]
    have : d * q + r = d * (q - 1) + (r + d) := by rw [Int.mul_sub]; omega
    rw [this, Int.mul_add_ediv_left _ _ (by omega), Int.ediv_eq_zero_of_lt (by omega) (by omega)]
    omega
  · intro h
    symm
    rw [← h1, Int.mul_add_ediv_left _ _ (by omega), Int.ediv_eq_zero_of_lt (by omega) (by omega)]
    omega
theorem dn_bd (x d B : Int) (hd : 1 ≤ d) (h1 : -B ≤ x) (h2 : x ≤ B) : -B ≤ x / d ∧ x / d ≤ B := by
  have hB : 0 ≤ B := by omega
  constructor
  · refine Int.le_ediv_of_mul_le (by omega) ?_
    have := Int.mul_le_mul_of_nonneg_left hd hB
    have h3 : -B * d = -(B * d) := Int.neg_mul _ _
    omega
  · refine Int.le_trans (Int.ediv_le_ediv (by omega) h2) ?_
    exact Int.ediv_le_self _ hB

set_option maxHeartbeats 400000 in
theorem down_any (d x : Int) (hd : 1 ≤ d) (hd' : d ≤ 4611686018427387904) (h1 : -4611686018427387904 ≤ x) (h2 : x ≤ 4611686018427387904) (w : World) :
    Calls Try.prog 83 #[.int .i64 d, .int .i64 x] w fun e w' => e = .returned (.int .i64 (x / d)) ∧ w' = w := by
  obtain ⟨ha, hb⟩ := tdiv_dn x d hd
  obtain ⟨hq1, hq2⟩ := dn_bd x d 4611686018427387904 hd h1 h2
  by_cases hn : x.tmod d < 0
  · have he := ha hn
    have hq : x.tdiv d = x / d + 1 := by omega
    have Hq := Lib.hid hq
    have hq3 : -4611686018427387904 ≤ x.tdiv d := by omega
    have hq4 : x.tdiv d ≤ 4611686018427387905 := by omega
    clear ha hb he hq
    go_enter Try.func83, Try.ntmps83
    go_wp2
    go_ret
    exact ⟨ret_int (by rw [Hq.out]; omega), rfl⟩
  · have hq := hb hn
    have Hq := Lib.hid hq
    have hn' : 0 ≤ x.tmod d := by omega
    have hq3 : -4611686018427387904 ≤ x.tdiv d := by omega
    have hq4 : x.tdiv d ≤ 4611686018427387904 := by omega
    clear ha hb hq
    go_enter Try.func83, Try.ntmps83
    go_wp2
    go_ret
    exact ⟨ret_int (by rw [Hq.out]), rfl⟩

set_option maxHeartbeats 400000 in
theorem up_any (d x : Int) (hd : 1 ≤ d) (hd' : d ≤ 4611686018427387904) (h1 : -4611686018427387904 ≤ x) (h2 : x ≤ 4611686018427387904) (w : World) :
    Calls Try.prog 84 #[.int .i64 d, .int .i64 x] w fun e w' => e = .returned (.int .i64 (up x d)) ∧ w' = w := by
  have hc := fun w => down_any d (-x) hd hd' (by omega) (by omega) w
  obtain ⟨hq1, hq2⟩ := dn_bd (-x) d 4611686018427387904 hd (by omega) (by omega)
  unfold up
  generalize -x / d = q at hc hq1 hq2 ⊢
  go_enter Try.func84, Try.ntmps84
  go_wp2_with fail
  refine (hc _).mono ?_
  rintro e w' ⟨rfl, rfl⟩
  go_wp2_with fail
  go_ret
  exact ⟨rfl, rfl⟩

set_option maxHeartbeats 1000000 in
theorem outward_div (d a b : Int) (hd : 1 ≤ d) (hd' : d ≤ 4611686018427387904) (h1 : -4611686018427387904 ≤ a) (h1' : a ≤ 4611686018427387904) (h2 : -4611686018427387904 ≤ b) (h2' : b ≤ 4611686018427387904) (w : World) :
    Calls Try.prog 82 #[.func (.func 83) #[.int .i64 d] #[], .func (.func 84) #[.int .i64 d] #[], .agg #[.int .i64 a, .int .i64 b]] w fun e w' => e = .returned (.agg #[.int .i64 (a / d), .int .i64 (up b d)]) ∧ Below w.heap.size w w' := by
  have c1 := fun w => down_any d a hd hd' h1 h1' w
  have c2 := fun w => up_any d b hd hd' h2 h2' w
  generalize a / d = x at c1 ⊢
  generalize up b d = y at c2 ⊢
  go_enter Try.func82, Try.ntmps82
  go_wp2_with fail
  go_region_held3 (fun w' => w'.cell? ⟨w.heap.size, 0, none⟩ = some (.int .i64 a) ∧ w'.cell? ⟨w.heap.size, 1, none⟩ = some (.int .i64 b)) (simp [go_sem, World.cell?_alloc_past])
    (first
      | (go_at_call 83; refine (c1 _).mono ?_; rintro e w' ⟨rfl, rfl⟩)
      | (go_at_call 84; refine (c2 _).mono ?_; rintro e w' ⟨rfl, rfl⟩))
  all_goals
    go_wp2
    refine bodyPost_ret (v := .agg #[.int .i64 x, .int .i64 y]) (by simp [results, Try.results82, go_sem]) rfl ⟨rfl, ?_⟩
    exact (((Below.refl _ _).alloc (Nat.le_refl _) _).alloc (by simp) _).drew

/-- the ends of a quotient by one number, rounded outward -/
def qLo (a b d : Int) : Int := if d < 0 then (-b) / (-d) else a / d
def qHi (a b d : Int) : Int := if d < 0 then up (-a) (-d) else up b d

set_option maxHeartbeats 1000000 in
theorem quotient_any (a b d : Int) (hd : d ≠ 0) (d1 : -1073741824 ≤ d) (d2 : d ≤ 1073741824) (h1 : -1073741824 ≤ a) (h1' : a ≤ 1073741824) (h2 : -1073741824 ≤ b) (h2' : b ≤ 1073741824) (w : World) :
    Calls Try.prog 113 #[.agg #[.int .i64 a, .int .i64 b], .int .i64 d] w fun e w' => e = .returned (.agg #[.int .i64 (qLo a b d), .int .i64 (qHi a b d)]) ∧ Below w.heap.size w w' := by
  by_cases hn : d < 0
  · rw [show qLo a b d = (-b) / (-d) from if_pos hn, show qHi a b d = up (-a) (-d) from if_pos hn]
    have hc := fun w => outward_div (-d) (-b) (-a) (by omega) (by omega) (by omega) (by omega) (by omega) (by omega) w
    generalize -b / -d = x at hc ⊢
    generalize up (-a) (-d) = y at hc ⊢
    clear hd
    go_enter Try.func113, Try.ntmps113
    go_wp2_with fail
    refine (hc _).mono ?_
    rintro e w1 ⟨rfl, hb⟩
    obtain ⟨hk, hf⟩ := bcell hb
    go_wp2_with fail
    refine bodyPost_ret (v := .agg #[.int .i64 x, .int .i64 y]) (by simp [results, Try.results113, go_sem, hk]) rfl ⟨rfl, ?_⟩
    exact ((((Below.refl _ _).alloc (Nat.le_refl _) _).alloc (by simp) _).trans (hb.mono (by simp; omega))).setCell (by simp) _ |>.setCell (by simp) _
  · rw [show qLo a b d = a / d from if_neg hn, show qHi a b d = up b d from if_neg hn]
    have hd1 : 1 ≤ d := by omega
    have hc := fun w => outward_div d a b hd1 (by omega) (by omega) (by omega) (by omega) (by omega) w
    generalize a / d = x at hc ⊢
    generalize up b d = y at hc ⊢
    clear hd
    go_enter Try.func113, Try.ntmps113
    go_wp2_with fail
    refine (hc _).mono ?_
    rintro e w1 ⟨rfl, hb⟩
    obtain ⟨hk, hf⟩ := bcell hb
    go_wp2_with fail
    refine bodyPost_ret (v := .agg #[.int .i64 x, .int .i64 y]) (by simp [results, Try.results113, go_sem, hk]) rfl ⟨rfl, ?_⟩
    exact ((((Below.refl _ _).alloc (Nat.le_refl _) _).alloc (by simp) _).trans (hb.mono (by simp; omega))).setCell (by simp) _ |>.setCell (by simp) _

theorem foldl_take (f : Int → Int → Int) (a : Int) (l : List Int) (k : Nat) (h : k < l.length) : (l.take (k + 1)).foldl f a = f ((l.take k).foldl f a) (l[k]?.getD 0) := by
  rw [List.take_succ_eq_append_getElem h, List.foldl_append]; simp [h]
theorem Boxed2.set2_eq {W : World} {B : Nat} {t : TypeId} {u v : Value} (h : Boxed2 W B t u v) {p q p' q' : Int} (hp : p = p') (hq : q = q') : Boxed2 ((W.setCell ⟨B, 0, none⟩ (.int .i64 p)).setCell ⟨B, 1, none⟩ (.int .i64 q)) B t (.int .i64 p') (.int .i64 q') := by
  subst hp; subst hq; exact h.set2 _ _
/-- 'ends' of some numbers -/
theorem ends_any (a : Int) (l : List Int) (b off cap : Nat) (hl : l.length ≤ 1000) (w : World) (hb : b < w.heap.size) (hc : ∀ k, k < l.length → w.cell? ⟨b, off + k, none⟩ = some (.int .i64 (l[k]?.getD 0))) :
    Calls Try.prog 85 #[.int .i64 a, .slice (some ⟨b, off, none⟩) l.length cap] w fun e w' => e = .returned (.agg #[.int .i64 (l.foldl min a), .int .i64 (l.foldl max a)]) ∧ Below w.heap.size w w' := by
  have HC := Lib.hid hc
  clear hc
  generalize hL : l.length = len at HC hl ⊢
  have HL := Lib.hid hL
  clear hL
  go_enter Try.func85, Try.ntmps85
  go_wp2
  have b5 := Boxed2.new (w.alloc (Obj.cells #[Value.int IntKind.i64 0, Value.int IntKind.i64 0] 23)) 23 (.int .i64 a) (.int .i64 a)
  have b4' := Boxed2.new w 23 (.int .i64 0) (.int .i64 0)
  have b4 : Boxed2 ((w.alloc (Obj.cells #[Value.int IntKind.i64 0, Value.int IntKind.i64 0] 23)).alloc (Obj.cells #[Value.int IntKind.i64 a, Value.int IntKind.i64 a] 23)) w.heap.size 23 (.int .i64 0) (.int .i64 0) := (Below.heap_alloc _ _ _ (by simp)).trans b4'
  rw [World.size_alloc] at b5
  have hB0 : Below w.heap.size w ((w.alloc (Obj.cells #[Value.int IntKind.i64 0, Value.int IntKind.i64 0] 23)).alloc (Obj.cells #[Value.int IntKind.i64 a, Value.int IntKind.i64 a] 23)) := ((Below.refl _ w).alloc (Nat.le_refl _) _).alloc (by simp) _
  go_loopw [13] (fun i wr => ∃ k : Nat, k ≤ len ∧ i = .int .i64 k ∧ Boxed2 wr (w.heap.size + 1) 23 (.int .i64 ((l.take k).foldl min a)) (.int .i64 ((l.take k).foldl max a)) ∧ Boxed2 wr w.heap.size 23 (.int .i64 0) (.int .i64 0) ∧ Below w.heap.size w wr) (fun i _ => len - (intOf i).toNat)
  case atStart => exact ⟨0, Nat.zero_le _, rfl, b5, b4, hB0⟩
  case round =>
    clear b5 b4 b4' hB0
    obtain ⟨k, hk, rfl, b5, b4, hB⟩ := hrel
    by_cases hlt : k < len
    · have hck := (hB.cell (p := ⟨b, off + k, none⟩) hb).trans (HC.out k hlt)
      have hs1 : (l.take (k + 1)).foldl min a = min ((l.take k).foldl min a) (l[k]?.getD 0) := foldl_take _ _ _ _ (by rw [HL.out]; exact hlt)
      have hs2 : (l.take (k + 1)).foldl max a = max ((l.take k).foldl max a) (l[k]?.getD 0) := foldl_take _ _ _ _ (by rw [HL.out]; exact hlt)
      have Hs1 := Lib.hid hs1
      have Hs2 := Lib.hid hs2
      clear hs1 hs2
      generalize (l.take k).foldl min a = mn at b5 Hs1
      generalize (l.take k).foldl max a = mx at b5 Hs2
      generalize l[k]?.getD 0 = z at hck Hs1 Hs2
      have x0 := b5.c0
      have x1 := b5.c1
      have xf0 := b5.f0
      have xf1 := b5.f1
      go_wp2
      all_goals
        go_roundw
        case rel =>
          refine ⟨k + 1, by omega, by go_num, ?_, ?_, (hB.setCell (p := ⟨w.heap.size + 1, 0, none⟩) (by simp) _).setCell (p := ⟨w.heap.size + 1, 1, none⟩) (by simp) _⟩
          · rw [Hs1.out, Hs2.out]
            exact Boxed2.set2_eq (W := wr) b5 (by omega) (by omega)
          · exact (Below.heap_setCell _ _ _ _ (by simp)).trans ((Below.heap_setCell _ _ _ _ (by simp)).trans b4)
        case measure => simp [intOf]; omega
    · obtain rfl : k = len := by omega
      have e1 : l.take k = l := List.take_of_length_le (by rw [HL.out]; omega)
      rw [e1] at b5
      have x0 := b5.c0
      have x1 := b5.c1
      have y0 := b4.c0
      have y1 := b4.c1
      have yf0 := b4.f0
      have yf1 := b4.f1
      generalize hmn : l.foldl min a = mn at b5 x0
      generalize hmx : l.foldl max a = mx at b5 x1
      have Hmn := Lib.hid hmn
      have Hmx := Lib.hid hmx
      clear hmn hmx e1
      go_wp2
      refine bodyPost_ret (v := .agg #[.int .i64 mn, .int .i64 mx]) (by simp [results, Try.results85, go_sem, y0, y1]) rfl ⟨by rw [Hmn.out, Hmx.out], ?_⟩
      exact (hB.setCell (p := ⟨w.heap.size, 0, none⟩) (Nat.le_refl _) _).setCell (p := ⟨w.heap.size, 1, none⟩) (Nat.le_refl _) _
end Go.Proofs.Ytamelpfhbnkggaa

/-
  Layer 1 in this seat: Scale and what it calls; few, amount.
-/
import Derived.Test.YtcchmjbedppfnaaTbA
import Derived.Test.YtcchmjbedppfnaaCkV
import Derived.Deep.RegionHeld3
namespace Go.Proofs.Ytcchmjbedppfnaa
open Go.RowKit Go.Shelf
set_option linter.unusedSimpArgs false
/-- rounded up -/
def bup (x d : Int) : Int := -((-x) / d)
set_option maxHeartbeats 400000 in
theorem bdown_any (d x : Int) (hd : 1 ≤ d) (hd' : d ≤ 4611686018427387904) (h1 : -4611686018427387904 ≤ x) (h2 : x ≤ 4611686018427387904) (w : World) :
    Calls Try.prog 125 #[.int .i64 d, .int .i64 x] w fun e w' => e = .returned (.int .i64 (x / d)) ∧ w' = w := by
  obtain ⟨ha, hb⟩ := tdiv_dn x d hd
  obtain ⟨hq1, hq2⟩ := dn_bd x d 4611686018427387904 hd h1 h2
  by_cases hn : x.tmod d < 0
  · have he := ha hn
    have hq : x.tdiv d = x / d + 1 := by omega
    have Hq := Lib.hid hq
    have hq3 : -4611686018427387904 ≤ x.tdiv d := by omega
    have hq4 : x.tdiv d ≤ 4611686018427387905 := by omega
    clear ha hb he hq
    go_enter Try.func125, Try.ntmps125
    go_wp2
    go_ret
    exact ⟨ret_int (by rw [Hq.out]; omega), rfl⟩
  · have hq := hb hn
    have Hq := Lib.hid hq
    have hn' : 0 ≤ x.tmod d := by omega
    have hq3 : -4611686018427387904 ≤ x.tdiv d := by omega
    have hq4 : x.tdiv d ≤ 4611686018427387904 := by omega
    clear ha hb hq
    go_enter Try.func125, Try.ntmps125
    go_wp2
    go_ret
    exact ⟨ret_int (by rw [Hq.out]), rfl⟩

set_option maxHeartbeats 400000 in
theorem bup_any (d x : Int) (hd : 1 ≤ d) (hd' : d ≤ 4611686018427387904) (h1 : -4611686018427387904 ≤ x) (h2 : x ≤ 4611686018427387904) (w : World) :
    Calls Try.prog 126 #[.int .i64 d, .int .i64 x] w fun e w' => e = .returned (.int .i64 (bup x d)) ∧ w' = w := by
  have hc := fun w => bdown_any d (-x) hd hd' (by omega) (by omega) w
  obtain ⟨hq1, hq2⟩ := dn_bd (-x) d 4611686018427387904 hd (by omega) (by omega)
  unfold bup
  generalize -x / d = q at hc hq1 hq2 ⊢
  go_enter Try.func126, Try.ntmps126
  go_wp2_with fail
  refine (hc _).mono ?_
  rintro e w' ⟨rfl, rfl⟩
  go_wp2_with fail
  go_ret
  exact ⟨rfl, rfl⟩

set_option maxHeartbeats 1000000 in
theorem outward_div (d a b : Int) (hd : 1 ≤ d) (hd' : d ≤ 4611686018427387904) (h1 : -4611686018427387904 ≤ a) (h1' : a ≤ 4611686018427387904) (h2 : -4611686018427387904 ≤ b) (h2' : b ≤ 4611686018427387904) (w : World) :
    Calls Try.prog 124 #[.func (.func 125) #[.int .i64 d] #[], .func (.func 126) #[.int .i64 d] #[], .agg #[.int .i64 a, .int .i64 b]] w fun e w' => e = .returned (.agg #[.int .i64 (a / d), .int .i64 (bup b d)]) ∧ Below w.heap.size w w' := by
  have c1 := fun w => bdown_any d a hd hd' h1 h1' w
  have c2 := fun w => bup_any d b hd hd' h2 h2' w
  generalize a / d = x at c1 ⊢
  generalize bup b d = y at c2 ⊢
  go_enter Try.func124, Try.ntmps124
  go_wp2_with fail
  go_region_held3 (fun w' => w'.cell? ⟨w.heap.size, 0, none⟩ = some (.int .i64 a) ∧ w'.cell? ⟨w.heap.size, 1, none⟩ = some (.int .i64 b)) (simp [go_sem, World.cell?_alloc_past])
    (first
      | (go_at_call 125; refine (c1 _).mono ?_; rintro e w' ⟨rfl, rfl⟩)
      | (go_at_call 126; refine (c2 _).mono ?_; rintro e w' ⟨rfl, rfl⟩))
  all_goals
    go_wp2
    refine bodyPost_ret (v := .agg #[.int .i64 x, .int .i64 y]) (by simp [results, Try.results124, go_sem]) rfl ⟨rfl, ?_⟩
    exact (((Below.refl _ _).alloc (Nat.le_refl _) _).alloc (by simp) _).drew

theorem Boxed2.set2 {W : World} {B : Nat} {t : TypeId} {u v : Value} (h : Boxed2 W B t u v) (u' v' : Value) : Boxed2 ((W.setCell ⟨B, 0, none⟩ u').setCell ⟨B, 1, none⟩ v') B t u' v' := by
  unfold Boxed2 at *
  simp [World.setCell, Array.getElem?_modify, h]
theorem foldl_take (f : Int → Int → Int) (a : Int) (l : List Int) (k : Nat) (h : k < l.length) : (l.take (k + 1)).foldl f a = f ((l.take k).foldl f a) (l[k]?.getD 0) := by
  rw [List.take_succ_eq_append_getElem h, List.foldl_append]; simp [h]
theorem Boxed2.set2_eq {W : World} {B : Nat} {t : TypeId} {u v : Value} (h : Boxed2 W B t u v) {p q p' q' : Int} (hp : p = p') (hq : q = q') : Boxed2 ((W.setCell ⟨B, 0, none⟩ (.int .i64 p)).setCell ⟨B, 1, none⟩ (.int .i64 q)) B t (.int .i64 p') (.int .i64 q') := by
  subst hp; subst hq; exact h.set2 _ _
set_option maxHeartbeats 1000000 in
/-- 'ends' of some numbers -/
theorem bends_any (a : Int) (l : List Int) (b off cap : Nat) (hl : l.length ≤ 1000) (w : World) (hb : b < w.heap.size) (hc : ∀ k, k < l.length → w.cell? ⟨b, off + k, none⟩ = some (.int .i64 (l[k]?.getD 0))) :
    Calls Try.prog 127 #[.int .i64 a, .slice (some ⟨b, off, none⟩) l.length cap] w fun e w' => e = .returned (.agg #[.int .i64 (l.foldl min a), .int .i64 (l.foldl max a)]) ∧ Below w.heap.size w w' := by
  have HC := Lib.hid hc
  clear hc
  generalize hL : l.length = len at HC hl ⊢
  have HL := Lib.hid hL
  clear hL
  go_enter Try.func127, Try.ntmps127
  go_wp2
  have b5 := Boxed2.new (w.alloc (Obj.cells #[Value.int IntKind.i64 0, Value.int IntKind.i64 0] 23)) 23 (.int .i64 a) (.int .i64 a)
  have b4' := Boxed2.new w 23 (.int .i64 0) (.int .i64 0)
  have b4 : Boxed2 ((w.alloc (Obj.cells #[Value.int IntKind.i64 0, Value.int IntKind.i64 0] 23)).alloc (Obj.cells #[Value.int IntKind.i64 a, Value.int IntKind.i64 a] 23)) w.heap.size 23 (.int .i64 0) (.int .i64 0) := (Below.heap_alloc _ _ _ (by simp)).trans b4'
  rw [World.size_alloc] at b5
  have hB0 : Below w.heap.size w ((w.alloc (Obj.cells #[Value.int IntKind.i64 0, Value.int IntKind.i64 0] 23)).alloc (Obj.cells #[Value.int IntKind.i64 a, Value.int IntKind.i64 a] 23)) := ((Below.refl _ w).alloc (Nat.le_refl _) _).alloc (by simp) _
  go_loopw [13] (fun i wr => ∃ k : Nat, k ≤ len ∧ i = .int .i64 k ∧ Boxed2 wr (w.heap.size + 1) 23 (.int .i64 ((l.take k).foldl min a)) (.int .i64 ((l.take k).foldl max a)) ∧ Boxed2 wr w.heap.size 23 (.int .i64 0) (.int .i64 0) ∧ Below w.heap.size w wr) (fun i _ => len - (intOf i).toNat)
  case atStart => exact ⟨0, Nat.zero_le _, rfl, b5, b4, hB0⟩
  case round =>
    clear b5 b4 b4' hB0
    obtain ⟨k, hk, rfl, b5, b4, hB⟩ := hrel
    by_cases hlt : k < len
    · have hck := (hB.cell (p := ⟨b, off + k, none⟩) hb).trans (HC.out k hlt)
      have hs1 : (l.take (k + 1)).foldl min a = min ((l.take k).foldl min a) (l[k]?.getD 0) := foldl_take _ _ _ _ (by rw [HL.out]; exact hlt)
      have hs2 : (l.take (k + 1)).foldl max a = max ((l.take k).foldl max a) (l[k]?.getD 0) := foldl_take _ _ _ _ (by rw [HL.out]; exact hlt)
      have Hs1 := Lib.hid hs1
      have Hs2 := Lib.hid hs2
      clear hs1 hs2
      generalize (l.take k).foldl min a = mn at b5 Hs1
      generalize (l.take k).foldl max a = mx at b5 Hs2
      generalize l[k]?.getD 0 = z at hck Hs1 Hs2
      have x0 := b5.c0
      have x1 := b5.c1
      have xf0 := b5.f0
      have xf1 := b5.f1
      go_wp2
      all_goals
        go_roundw
        case rel =>
          refine ⟨k + 1, by omega, by go_num, ?_, ?_, (hB.setCell (p := ⟨w.heap.size + 1, 0, none⟩) (by simp) _).setCell (p := ⟨w.heap.size + 1, 1, none⟩) (by simp) _⟩
          · rw [Hs1.out, Hs2.out]
            exact Boxed2.set2_eq (W := wr) b5 (by omega) (by omega)
          · exact (Below.heap_setCell _ _ _ _ (by simp)).trans ((Below.heap_setCell _ _ _ _ (by simp)).trans b4)
        case measure => simp [intOf]; omega
    · obtain rfl : k = len := by omega
      have e1 : l.take k = l := List.take_of_length_le (by rw [HL.out]; omega)
      rw [e1] at b5
      have x0 := b5.c0
      have x1 := b5.c1
      have y0 := b4.c0
      have y1 := b4.c1
      have yf0 := b4.f0
      have yf1 := b4.f1
      generalize hmn : l.foldl min a = mn at b5 x0
      generalize hmx : l.foldl max a = mx at b5 x1
      have Hmn := Lib.hid hmn
      have Hmx := Lib.hid hmx
      clear hmn hmx e1
      go_wp2
      refine bodyPost_ret (v := .agg #[.int .i64 mn, .int .i64 mx]) (by simp [results, Try.results127, go_sem, y0, y1]) rfl ⟨by rw [Hmn.out, Hmx.out], ?_⟩
      exact (hB.setCell (p := ⟨w.heap.size, 0, none⟩) (Nat.le_refl _) _).setCell (p := ⟨w.heap.size, 1, none⟩) (Nat.le_refl _) _
theorem prod_bd (x y : Int) (h1 : -1073741824 ≤ x) (h2 : x ≤ 1073741824) (h3 : -1073741824 ≤ y) (h4 : y ≤ 1073741824) : -1152921504606846976 ≤ x * y ∧ x * y ≤ 1152921504606846976 := by
  have e1 : (x * y).natAbs = x.natAbs * y.natAbs := Int.natAbs_mul x y
  have e2 : x.natAbs * y.natAbs ≤ 1073741824 * 1073741824 := Nat.mul_le_mul (by omega) (by omega)
  omega

def scaleS (a b n d : Int) : R3 :=
  if vB a b = true then
    if (-1073741824 ≤ n ∧ n ≤ 1073741824) ∧ 1 ≤ d ∧ d ≤ 1073741824 then fit (min (a * n) (b * n) / d) (bup (max (a * n) (b * n)) d) else ⟨0, 0, 3⟩
  else ⟨0, 0, 2⟩

set_option maxHeartbeats 1000000 in
theorem bscale_any (a b n d : Int) (w : World) :
    Calls Try.prog 64 #[.agg #[.int .i64 a, .int .i64 b], .int .i64 n, .int .i64 d] w fun e w' => e = .returned (.tuple #[.agg #[.int .i64 (scaleS a b n d).lo, .int .i64 (scaleS a b n d).hi], .int .i64 (scaleS a b n d).e]) ∧ Below w.heap.size w w' := by
  by_cases h : vB a b = true
  · have c1 := fun w => check_ok a b h w
    obtain ⟨h3, h4, h5⟩ := (vB_iff a b).1 h
    by_cases hn : (-1073741824 ≤ n ∧ n ≤ 1073741824) ∧ 1 ≤ d ∧ d ≤ 1073741824
    · have k : scaleS a b n d = fit (min (a * n) (b * n) / d) (bup (max (a * n) (b * n)) d) := by unfold scaleS; rw [if_pos h, if_pos hn]
      rw [k]
      obtain ⟨⟨hn1, hn2⟩, hn3, hn4⟩ := hn
      obtain ⟨p1, p2⟩ := prod_bd a n (by omega) (by omega) (by omega) (by omega)
      obtain ⟨p3, p4⟩ := prod_bd b n (by omega) (by omega) (by omega) (by omega)
      have c2 := fun bl W hbl hcl => bends_any (a * n) [b * n] bl 0 1 (by simp) W hbl hcl
      change ∀ bl W, _ → _ → Calls Try.prog 127 #[.int .i64 (a * n), .slice (some ⟨bl, 0, none⟩) 1 1] W fun e w' => e = .returned (.agg #[.int .i64 (min (a * n) (b * n)), .int .i64 (max (a * n) (b * n))]) ∧ Below W.heap.size W w' at c2
      have c3 := fun w => outward_div d (min (a * n) (b * n)) (max (a * n) (b * n)) hn3 (by omega) (by omega) (by omega) (by omega) (by omega) w
      have c4 := fun w => fitting_any (min (a * n) (b * n) / d) (bup (max (a * n) (b * n)) d) w
      generalize fit (min (a * n) (b * n) / d) (bup (max (a * n) (b * n)) d) = r at c4 ⊢
      generalize min (a * n) (b * n) / d = x1 at c3 c4
      generalize bup (max (a * n) (b * n)) d = x2 at c3 c4
      generalize min (a * n) (b * n) = y1 at c2 c3
      generalize max (a * n) (b * n) = y2 at c2 c3
      clear h k
      go_enter Try.func64, Try.ntmps64
      go_wp2_with fail
      refine (c1 _).mono ?_
      rintro e w1 ⟨rfl, hb⟩
      obtain ⟨hc, hf⟩ := bcell hb
      go_wp2_with fail
      refine (c2 _ _ ?h1 ?h2).mono ?_
      case h1 => simp
      case h2 =>
        intro k hk
        match k, hk with
        | 0, _ => simp
      rintro e w2 ⟨rfl, hb2⟩
      replace hb := hb.trans (((Below.refl _ _).alloc (Nat.le_refl _) _).trans (hb2.mono (by simp)) |>.mono hb.size)
      clear hc hf hb2
      obtain ⟨hc, hf⟩ := bcell hb
      go_wp2_with fail
      refine (c3 _).mono ?_
      rintro e w3 ⟨rfl, hb2⟩
      replace hb := hb.trans (hb2.mono hb.size)
      clear hc hf hb2
      obtain ⟨hc, hf⟩ := bcell hb
      go_wp2_with fail
      refine (c4 _).mono ?_
      rintro e w4 ⟨rfl, hb2⟩
      replace hb := hb.trans (hb2.mono hb.size)
      clear hc hf hb2
      obtain ⟨hc, hf⟩ := bcell hb
      go_wp2_with fail
      refine bodyPost_ret (v := .tuple #[.agg #[.int .i64 r.lo, .int .i64 r.hi], .int .i64 r.e]) (by simp [results, Try.results64, go_sem, hc]) rfl ⟨rfl, ?_⟩
      exact ((((((Below.refl _ _).alloc (Nat.le_refl _) _).alloc (by simp) _).trans (hb.mono (by simp; omega))).setCell (by simp) _).setCell (by simp) _)
    · have k : scaleS a b n d = ⟨0, 0, 3⟩ := by unfold scaleS; rw [if_pos h, if_neg hn]
      rw [k]
      have hn' : n < -1073741824 ∨ (-1073741824 ≤ n ∧ 1073741824 < n) ∨ (-1073741824 ≤ n ∧ n ≤ 1073741824 ∧ d < 1) ∨ (-1073741824 ≤ n ∧ n ≤ 1073741824 ∧ 1 ≤ d ∧ 1073741824 < d) := by omega
      clear h k hn
      rcases hn' with hn | ⟨hn, hn'⟩ | ⟨hn, hn', hn''⟩ | ⟨hn, hn', hn'', hn3⟩
      all_goals
        go_enter Try.func64, Try.ntmps64
        go_wp2_with fail
        refine (c1 _).mono ?_
        rintro e w1 ⟨rfl, hb⟩
        obtain ⟨hc, hf⟩ := bcell hb
        go_wp2_with fail
        refine bodyPost_ret (v := .tuple #[.agg #[.int .i64 0, .int .i64 0], .int .i64 3]) (by simp [results, Try.results64, go_sem, hc]) rfl ⟨rfl, ?_⟩
        exact ((((((Below.refl _ _).alloc (Nat.le_refl _) _).alloc (by simp) _).trans (hb.mono (by simp; omega))).setCell (by simp) _).setCell (by simp) _)
  · have k : scaleS a b n d = ⟨0, 0, 2⟩ := if_neg h
    rw [k]
    have c1 := fun w => check_bad a b h w
    clear h k
    go_enter Try.func64, Try.ntmps64
    go_wp2_with fail
    refine (c1 _).mono ?_
    rintro e w1 ⟨rfl, hb⟩
    obtain ⟨hc, hf⟩ := bcell hb
    go_wp2_with fail
    refine bodyPost_ret (v := .tuple #[.agg #[.int .i64 0, .int .i64 0], .int .i64 2]) (by simp [results, Try.results64, go_sem, hc]) rfl ⟨rfl, ?_⟩
    exact ((((((Below.refl _ _).alloc (Nat.le_refl _) _).alloc (by simp) _).trans (hb.mono (by simp; omega))).setCell (by simp) _).setCell (by simp) _)

set_option maxHeartbeats 400000 in
theorem amount_any (n : Int) (h : -9223372036854775807 ≤ n ∧ n ≤ 9223372036854775807) (w : World) : Calls Try.prog 63 #[.int .i64 n] w fun e w' => e = .returned (.int .i64 (max n (-n))) ∧ w' = w := by
  have hn : wrap64 (-n) = -n := by unfold wrap64; omega
  go_enter Try.func63, Try.ntmps63
  go_wp2_with fail
  go_ret
  exact ⟨by first | rfl | (congr 2; omega), rfl⟩
end Go.Proofs.Ytcchmjbedppfnaa

/-
  Clock: the last exchange, the earliest reading, Due.
-/
import Derived.Test.YtcchmjbedppfnaaCkN
namespace Go.Proofs.Ytcchmjbedppfnaa
open Go.RowKit Go.Shelf
set_option linter.unusedSimpArgs false
/-- the greatest reading of the first k offsets, and of the first one -/
def lstTo (os : List Of) : Nat → Int
  | 0 => (of os 0).rd
  | k + 1 => max (lstTo os k) (of os k).rd
set_option maxRecDepth 100000 in
set_option maxHeartbeats 4000000 in
theorem last_any (p r : Int) (sv : Value) (os : List Of) (hl : 1 ≤ os.length ∧ os.length ≤ 64) (w : World) (hO : Ofs w.heap.size w sv os) :
    Calls Try.prog 93 #[.agg #[.int .i64 p, .int .i64 r, sv]] w fun e w' => e = .returned (.int .i64 (lstTo os os.length)) ∧ Below w.heap.size w w' := by
  have HL := Lib.hid (fun k => show lstTo os (k + 1) = max (lstTo os k) (of os k).rd from rfl)
  have HL0 := Lib.hid (show lstTo os 0 = (of os 0).rd from rfl)
  obtain ⟨a, cap, hsv, -, hcc⟩ := hO
  subst hsv
  have HC := Lib.hid hcc
  clear hcc
  generalize hlen : os.length = len at *
  clear hlen
  obtain ⟨A, hA⟩ : ∃ A, A = w.alloc (.cells #[.int .i64 p, .int .i64 r, .slice a len cap] 129) := ⟨_, rfl⟩
  have hBA : Below w.heap.size w A := by rw [hA]; exact (Below.refl _ _).alloc (Nat.le_refl _) _
  have k2 : A.cell? ⟨w.heap.size, 2, none⟩ = some (.slice a len cap) := by rw [hA]; simp [go_sem]
  obtain ⟨b, off, hab, hb, e0, e1, e2⟩ := HC.out 0 (by omega)
  subst hab
  have m2 := (hBA.cell (p := ⟨b, off + 0 * 3 + 2, none⟩) hb).trans e2
  simp only [Nat.zero_mul, Nat.add_zero] at m2
  have hl0 : (0 : Int) < (len : Int) := by omega
  have HBA := Lib.hid hBA
  have HK2 := Lib.hid k2
  clear e0 e1 e2 hBA
  generalize hr0 : (of os 0).rd = r0 at *
  subst hA
  go_enter Try.func93, Try.ntmps93
  go_wp2_with fail
  go_loopw [3, 14] (fun y i wr => ∃ k : Nat, k ≤ len ∧ i = .int .i64 k ∧ y = .int .i64 (lstTo os k) ∧ Below w.heap.size w wr) (fun _ i _ => len - (intOf i).toNat)
  case atStart => exact ⟨0, Nat.zero_le _, rfl, by rw [HL0.out], HBA.out⟩
  case round =>
    obtain ⟨k, hk, rfl, rfl, hB⟩ := hrel
    have HB := Lib.hid hB
    by_cases hlt : k < len
    · have hki : (k : Int) < (len : Int) := by omega
      obtain ⟨b2, off2, hab, hb2, e0, e1, e2⟩ := HC.out k hlt
      simp only [Option.some.injEq, Addr.mk.injEq] at hab
      obtain ⟨rfl, rfl, -⟩ := hab
      have m0 := (hB.cell (p := ⟨b, off + k * 3, none⟩) hb2).trans e0
      have m1 := (hB.cell (p := ⟨b, off + k * 3 + 1, none⟩) hb2).trans e1
      have m3 := (hB.cell (p := ⟨b, off + k * 3 + 2, none⟩) hb2).trans e2
      have HLk := Lib.hid (HL.out k)
      clear e0 e1 e2 hB
      generalize (of os k).lo = y0 at *
      generalize (of os k).hi = y1 at *
      generalize (of os k).rd = y2 at *
      generalize lstTo os k = z at *
      go_wp2_with fail
      go_roundw
      case rel => exact ⟨k + 1, by omega, by go_num, by rw [HLk.out], HB.out.alloc HB.out.size _⟩
      case measure => simp [intOf]; omega
    · obtain rfl : k = len := by omega
      clear hB
      go_wp2_with fail
      go_ret
      exact ⟨rfl, HB.out⟩
/-- what the earliest reading is -/
def ErP (h : Int → Bool) (lo hi : Int) (v : Value) : Prop :=
  (v = .tuple #[.int .i64 0, .bool false] ∧ h hi = false) ∨ (∃ m : Int, v = .tuple #[.int .i64 m, .bool true] ∧ lo ≤ m ∧ m ≤ hi ∧ h m = true ∧ (m = lo ∨ h (m - 1) = false))
set_option maxRecDepth 100000 in
set_option maxHeartbeats 4000000 in
theorem earliest_any (lo hi : Int) (hlh : 0 ≤ lo ∧ lo ≤ hi ∧ hi ≤ 1125899906842624) (P1 P2 : Nat) (h : Int → Bool) (w : World)
    (hcl : ∀ t W, lo ≤ t → t ≤ hi → Below w.heap.size w W → Calls Try.prog 94 #[.int .i64 t, .pointer (some ⟨P1, 0, none⟩), .pointer (some ⟨P2, 0, none⟩)] W fun e w' => e = .returned (.bool (h t)) ∧ Below W.heap.size W w') :
    Calls Try.prog 92 #[.int .i64 lo, .int .i64 hi, .func (.func 94) #[] #[.pointer (some ⟨P1, 0, none⟩), .pointer (some ⟨P2, 0, none⟩)]] w fun e w' => ∃ v, e = .returned v ∧ ErP h lo hi v ∧ Below w.heap.size w w' := by
  have HCL := Lib.hid hcl
  have c0 := hcl hi w hlh.2.1 (Int.le_refl _) (Below.refl _ _)
  have HEF := Lib.hid (show h hi = false → ErP h lo hi (.tuple #[.int .i64 0, .bool false]) from fun q => .inl ⟨rfl, q⟩)
  have HET := Lib.hid (show ∀ m, lo ≤ m → m ≤ hi → h m = true → (m = lo ∨ h (m - 1) = false) → ErP h lo hi (.tuple #[.int .i64 m, .bool true]) from fun m a b c d => .inr ⟨m, rfl, a, b, c, d⟩)
  generalize ErP h lo hi = PP at *
  clear hcl
  generalize hb0 : h hi = b0 at *
  have HB0 := Lib.hid hb0
  clear hb0
  go_enter Try.func92, Try.ntmps92
  go_wp2_with fail
  refine c0.mono ?_
  rintro e w1 ⟨rfl, hb⟩
  have HB1 := Lib.hid hb
  clear hb c0
  cases b0
  · go_wp2_with fail
    refine bodyPost_ret (v := .tuple #[.int .i64 0, .bool false]) (by simp [results, Try.results92, go_sem]) rfl ⟨_, rfl, HEF.out trivial, HB1.out⟩
  go_wp2_with fail
  go_loopw [0, 1] (fun x y wr => ∃ l u : Int, x = .int .i64 l ∧ y = .int .i64 u ∧ lo ≤ l ∧ l ≤ u ∧ u ≤ hi ∧ h u = true ∧ (l = lo ∨ h (l - 1) = false) ∧ Below w.heap.size w wr) (fun x y _ => (intOf y - intOf x).toNat)
  case atStart => exact ⟨lo, hi, rfl, rfl, Int.le_refl _, hlh.2.1, Int.le_refl _, HB0.out, .inl rfl, HB1.out⟩
  case round =>
    obtain ⟨l, u, rfl, rfl, hl1, hl2, hl3, hu, hl, hB⟩ := hrel
    have HU := Lib.hid hu
    have HL := Lib.hid hl
    have HB := Lib.hid hB
    clear hu hl hB
    by_cases hlt : l < u
    · have hm1 : l ≤ l + (u - l) / 2 := by omega
      have hm2 : l + (u - l) / 2 < u := by omega
      have c1 := HCL.out (l + (u - l) / 2) wr (by omega) (by omega) HB.out
      have g1 : lo ≤ l + (u - l) / 2 + 1 ∧ l + (u - l) / 2 + 1 ≤ u ∧ l + (u - l) / 2 ≤ hi := by omega
      generalize hbm : h (l + (u - l) / 2) = bm at *
      have HBM := Lib.hid hbm
      clear hbm
      go_wp2_with fail
      refine c1.mono ?_
      rintro e w2 ⟨rfl, hb⟩
      have HB2 := Lib.hid (HB.out.trans (hb.mono HB.out.size))
      clear hb c1
      cases bm
      · go_wp2_with fail
        go_roundw
        case rel => exact ⟨l + (u - l) / 2 + 1, u, by go_num, rfl, g1.1, g1.2.1, hl3, HU.out, .inr (by rw [show l + (u - l) / 2 + 1 - 1 = l + (u - l) / 2 by omega]; exact HBM.out), HB2.out⟩
        case measure => simp [intOf]; omega
      · go_wp2_with fail
        go_roundw
        case rel => exact ⟨l, l + (u - l) / 2, rfl, rfl, hl1, hm1, g1.2.2, HBM.out, HL.out, HB2.out⟩
        case measure => simp [intOf]; omega
    · obtain rfl : l = u := by omega
      go_wp2_with fail
      refine bodyPost_ret (v := .tuple #[.int .i64 l, .bool true]) (by simp [results, Try.results92, go_sem]) rfl ⟨_, rfl, HET.out l hl1 hl3 HU.out HL.out, HB.out⟩
end Go.Proofs.Ytcchmjbedppfnaa

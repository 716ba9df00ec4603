/-
  Clock: the offset at a reading, by all exchanges.
-/
import Derived.Test.YtcchmjbedppfnaaCkH
namespace Go.Proofs.Ytcchmjbedppfnaa
open Go.RowKit Go.Shelf
set_option linter.unusedSimpArgs false
set_option maxHeartbeats 1000000 in
theorem everything_any (w : World) : Calls Try.prog 135 #[] w fun e w' => e = .returned (.agg #[.int .i64 (-9223372036854775808), .int .i64 9223372036854775807]) ∧ Below w.heap.size w w' := by
  go_enter Try.func135, Try.ntmps135
  go_wp2_with fail
  refine bodyPost_ret (v := .agg #[.int .i64 (-9223372036854775808), .int .i64 9223372036854775807]) (by simp [results, Try.results135, go_sem]) rfl ⟨rfl, (Below.refl _ _).alloc (Nat.le_refl _) _⟩
set_option maxHeartbeats 1000000 in
theorem bounds_any (p r t : Int) (sv : Value) (w : World) : Calls Try.prog 134 #[.agg #[.int .i64 p, .int .i64 r, sv], .int .i64 t] w fun e w' => e = .returned (.func (.func 158) #[] #[.pointer (some ⟨w.heap.size, 0, none⟩), .pointer (some ⟨w.heap.size + 1, 0, none⟩)]) ∧ w' = (w.alloc (.cells #[.int .i64 p, .int .i64 r, sv] 129)).alloc (.cells #[.int .i64 t] 2) := by
  go_enter Try.func134, Try.ntmps134
  go_wp2_with fail
  go_ret
  exact ⟨rfl, rfl⟩
/-- the offset at a reading -/
def atS (r t : Int) (os : List Of) : Int × Int := meets (-9223372036854775808, 9223372036854775807) (os.map (bnd r t))
theorem atc_comb (r t : Int) (sv : Value) (os : List Of) (hlen : os.length ≤ 64) (hr : 0 ≤ r ∧ r ≤ 1000000) (hos : Small t os) (w W : World) (Bc Bt : Nat) (hO : Ofs w.heap.size w sv os) (hb : Below w.heap.size w W) (h1 : Bc < W.heap.size) (h2 : Bt < W.heap.size) (h3 : W.cell? ⟨Bc, 1, none⟩ = some (.int .i64 r)) (h4 : W.cell? ⟨Bc, 2, none⟩ = some sv) (h5 : W.cell? ⟨Bt, 0, none⟩ = some (.int .i64 t)) :
    Calls Try.prog 106 #[.func (.func 158) #[] #[.pointer (some ⟨Bc, 0, none⟩), .pointer (some ⟨Bt, 0, none⟩)], .agg #[.int .i64 (-9223372036854775808), .int .i64 9223372036854775807], .func (.func 73) #[] #[]] W fun e w' => e = .returned (spv (atS r t os)) ∧ Below W.heap.size W w' := by
  have q := callsIn_wide.1 (combined_in 10 (by omega) 158 #[.pointer (some ⟨Bc, 0, none⟩), .pointer (some ⟨Bt, 0, none⟩)] (enters_of Try.func158 (by kernel_rfl) rfl) (fun ys => ys = os.map (bnd r t)) (fun pre => pre <+: os.map (bnd r t)) 64 W.heap.size W (-9223372036854775808, 9223372036854775807) (Nat.le_refl _)
      (bounds_stops 9 (by omega) Bc Bt W.heap.size r t sv os hlen hr hos W h1 h2 (Nat.le_refl _) h3 h4 h5 (hO.mono hb hb.size)))
  refine Calls.mono q ?_
  rintro e w' ⟨ys, rfl, he, hb2⟩
  exact ⟨he, hb2⟩
set_option maxRecDepth 100000 in
set_option maxHeartbeats 4000000 in
theorem atc_any (p r t : Int) (sv : Value) (os : List Of) (hlen : os.length ≤ 64) (hr : 0 ≤ r ∧ r ≤ 1000000) (hos : Small t os) (w : World) (hO : Ofs w.heap.size w sv os) :
    Calls Try.prog 82 #[.agg #[.int .i64 p, .int .i64 r, sv], .int .i64 t] w fun e w' => e = .returned (spv (atS r t os)) ∧ Below w.heap.size w w' := by
  obtain ⟨a, cap, hsv⟩ := hO.form
  subst hsv
  have cB := fun W => bounds_any p r t (.slice a os.length cap) W
  have cE := fun W => everything_any W
  have HC := Lib.hid (fun W Bc Bt hb h1 h2 h3 h4 h5 => atc_comb r t (.slice a os.length cap) os hlen hr hos w W Bc Bt hO hb h1 h2 h3 h4 h5)
  clear hO hos
  generalize atS r t os = z at *
  unfold spv at *
  generalize os.length = len at *
  go_enter Try.func82, Try.ntmps82
  go_wp2_with fail
  refine (cB _).mono ?_
  rintro e w1 ⟨rfl, hw1⟩
  have hA : Below w.heap.size w ((w.alloc (.cells #[.int .i64 p, .int .i64 r, .slice a len cap] 129)).alloc (.cells #[.int .i64 0, .int .i64 0] 23)) := ((Below.refl _ _).alloc (Nat.le_refl _) _).alloc (by simp) _
  have hR0 : Bx2 ((w.alloc (.cells #[.int .i64 p, .int .i64 r, .slice a len cap] 129)).alloc (.cells #[.int .i64 0, .int .i64 0] 23)) (w.heap.size + 1) (.int .i64 0) (.int .i64 0) := by
    have q := Bx2.new (w.alloc (.cells #[.int .i64 p, .int .i64 r, .slice a len cap] 129)) (.int .i64 0) (.int .i64 0)
    rwa [World.size_alloc] at q
  generalize hV : (w.alloc (.cells #[.int .i64 p, .int .i64 r, .slice a len cap] 129)).alloc (.cells #[.int .i64 0, .int .i64 0] 23) = V at *
  have hVz : V.heap.size = w.heap.size + 2 := by rw [← hV]; simp
  have hVW : Below V.heap.size V w1 := by rw [hw1]; exact ((Below.refl _ _).alloc (Nat.le_refl _) _).alloc (by simp) _
  have hz1 : w1.heap.size = V.heap.size + 2 := by rw [hw1]; simp
  have k1 : w1.cell? ⟨V.heap.size, 1, none⟩ = some (.int .i64 r) := by rw [hw1]; simp [go_sem]
  have k2 : w1.cell? ⟨V.heap.size, 2, none⟩ = some (.slice a len cap) := by rw [hw1]; simp [go_sem]
  have k3 : w1.cell? ⟨V.heap.size + 1, 0, none⟩ = some (.int .i64 t) := by rw [hw1]; simp [go_sem]
  have HR1 := Lib.hid (hR0.keep hVW)
  have HB1 := Lib.hid (hA.trans (hVW.mono (by omega)))
  clear hw1 hV hR0 hA hVW
  go_wp2_with fail
  refine (cE _).mono ?_
  rintro e w2 ⟨rfl, hb2⟩
  have l1 := (hb2.cell (p := ⟨V.heap.size, 1, none⟩) (by show V.heap.size < w1.heap.size; omega)).trans k1
  have l2 := (hb2.cell (p := ⟨V.heap.size, 2, none⟩) (by show V.heap.size < w1.heap.size; omega)).trans k2
  have l3 := (hb2.cell (p := ⟨V.heap.size + 1, 0, none⟩) (by show V.heap.size + 1 < w1.heap.size; omega)).trans k3
  have hz2 := hb2.size
  have HR2 := Lib.hid (HR1.out.keep hb2)
  have HB2 := Lib.hid (HB1.out.trans (hb2.mono (by omega)))
  have c106 := HC.out w2 V.heap.size (V.heap.size + 1) HB2.out (by omega) (by omega) l1 l2 l3
  rw [hVz] at c106
  clear hb2 k1 k2 k3 l1 l2 l3 HR1 HB1
  go_wp2_with fail
  refine c106.mono ?_
  rintro e w3 ⟨rfl, hb3⟩
  have hR3 := HR2.out.keep hb3
  have HB3 := Lib.hid (HB2.out.trans (hb3.mono (by omega)))
  have r0 := hR3.c0
  have r1 := hR3.c1
  have f0 := hR3.f0 0
  have f1 := hR3.f0 1
  clear hb3 c106
  go_wp2_with fail
  refine bodyPost_ret (v := .agg #[.int .i64 z.1, .int .i64 z.2]) (by simp [results, Try.results82, go_sem, r0, r1]) rfl ⟨rfl, ?_⟩
  exact (HB3.out.setCell (p := ⟨w.heap.size + 1, 0, none⟩) (by show w.heap.size ≤ w.heap.size + 1; omega) _).setCell (p := ⟨w.heap.size + 1, 1, none⟩) (by show w.heap.size ≤ w.heap.size + 1; omega) _
end Go.Proofs.Ytcchmjbedppfnaa

/-
  TopEchoed: what its calls give.
-/
import Derived.Test.YtcchmjbedppfnaaEcE
namespace Go.Proofs.Ytcchmjbedppfnaa
open Go.RowKit Go.Shelf
set_option linter.unusedSimpArgs false
theorem times_ech (bh d x z y : Int) (h1 : 0 ≤ bh ∧ bh ≤ 65535) (h2 : 0 ≤ d ∧ d ≤ 65535) (h3 : 0 ≤ x ∧ x ≤ 999) (h4 : 0 ≤ z ∧ z ≤ 536870911) (h5 : 0 ≤ y ∧ y ≤ 39999) (W : World) :
    Calls Try.prog 39 #[.slice (some ⟨W.heap.size + 1, 0, none⟩) 1 1, .slice (some ⟨W.heap.size + 1 + 1, 0, none⟩) 2 2] (((W.alloc (.cells #[.int .i64 100000, .int .i64 (100000 + bh + d), .int .i64 (100000 + bh + d), .int .i64 (100000 + 2 * d), .int .i64 (max 0 (d - x)), .int .i64 (d + x), .int .i64 (max 0 (d - x)), .int .i64 (d + x)] 25)).alloc (.cells #[.int .i64 (-1), .int .i64 0, .slice (some ⟨W.heap.size, 0, none⟩) 1 1] 28)).alloc (.cells #[.int .i64 0, .int .i64 (70000 + z - bh), .int .i64 0, .int .i64 (70000 + z + y - bh)] 49)) fun e w' => (∃ b off c, e = .returned (.tuple #[.slice (some ⟨b, off, none⟩) 2 c, .int .i64 0]) ∧ b < w'.heap.size ∧ w'.cell? ⟨b, off, none⟩ = some (.int .i64 (70000 + z - min d x)) ∧ w'.cell? ⟨b, off + 1, none⟩ = some (.int .i64 (70000 + z + min d x)) ∧ w'.cell? ⟨b, off + 2, none⟩ = some (.int .i64 (70000 + z + y - min d x)) ∧ w'.cell? ⟨b, off + 3, none⟩ = some (.int .i64 (70000 + z + y + min d x))) ∧ Below (((W.alloc (.cells #[.int .i64 100000, .int .i64 (100000 + bh + d), .int .i64 (100000 + bh + d), .int .i64 (100000 + 2 * d), .int .i64 (max 0 (d - x)), .int .i64 (d + x), .int .i64 (max 0 (d - x)), .int .i64 (d + x)] 25)).alloc (.cells #[.int .i64 (-1), .int .i64 0, .slice (some ⟨W.heap.size, 0, none⟩) 1 1] 28)).alloc (.cells #[.int .i64 0, .int .i64 (70000 + z - bh), .int .i64 0, .int .i64 (70000 + z + y - bh)] 49)).heap.size (((W.alloc (.cells #[.int .i64 100000, .int .i64 (100000 + bh + d), .int .i64 (100000 + bh + d), .int .i64 (100000 + 2 * d), .int .i64 (max 0 (d - x)), .int .i64 (d + x), .int .i64 (max 0 (d - x)), .int .i64 (d + x)] 25)).alloc (.cells #[.int .i64 (-1), .int .i64 0, .slice (some ⟨W.heap.size, 0, none⟩) 1 1] 28)).alloc (.cells #[.int .i64 0, .int .i64 (70000 + z - bh), .int .i64 0, .int .i64 (70000 + z + y - bh)] 49)) w' := by
  have hX : Xcs (W.alloc (.cells #[.int .i64 100000, .int .i64 (100000 + bh + d), .int .i64 (100000 + bh + d), .int .i64 (100000 + 2 * d), .int .i64 (max 0 (d - x)), .int .i64 (d + x), .int .i64 (max 0 (d - x)), .int .i64 (d + x)] 25)).heap.size (W.alloc (.cells #[.int .i64 100000, .int .i64 (100000 + bh + d), .int .i64 (100000 + bh + d), .int .i64 (100000 + 2 * d), .int .i64 (max 0 (d - x)), .int .i64 (d + x), .int .i64 (max 0 (d - x)), .int .i64 (d + x)] 25)) (.slice (some ⟨W.heap.size, 0, none⟩) 1 1) [eX bh d x] := by
    refine ⟨_, 1, rfl, Nat.le_refl _, fun k hk => ?_⟩
    have hk2 : k < 1 := hk
    obtain rfl : k = 0 := by omega
    refine ⟨W.heap.size, 0, rfl, by simp, ?_, ?_, ?_, ?_, ?_, ?_, ?_, ?_⟩ <;> simp [go_sem, xc, eX]
  have hC := cls_one (W.alloc (.cells #[.int .i64 100000, .int .i64 (100000 + bh + d), .int .i64 (100000 + bh + d), .int .i64 (100000 + 2 * d), .int .i64 (max 0 (d - x)), .int .i64 (d + x), .int .i64 (max 0 (d - x)), .int .i64 (d + x)] 25)) (-1) 0 (.slice (some ⟨W.heap.size, 0, none⟩) 1 1) [eX bh d x] hX
  rw [show (W.alloc (.cells #[.int .i64 100000, .int .i64 (100000 + bh + d), .int .i64 (100000 + bh + d), .int .i64 (100000 + 2 * d), .int .i64 (max 0 (d - x)), .int .i64 (d + x), .int .i64 (max 0 (d - x)), .int .i64 (d + x)] 25)).heap.size = W.heap.size + 1 by simp] at hC
  obtain ⟨V, hV⟩ : ∃ V, V = (W.alloc (.cells #[.int .i64 100000, .int .i64 (100000 + bh + d), .int .i64 (100000 + bh + d), .int .i64 (100000 + 2 * d), .int .i64 (max 0 (d - x)), .int .i64 (d + x), .int .i64 (max 0 (d - x)), .int .i64 (d + x)] 25)).alloc (.cells #[.int .i64 (-1), .int .i64 0, .slice (some ⟨W.heap.size, 0, none⟩) 1 1] 28) := ⟨_, rfl⟩
  rw [← hV] at hC ⊢
  have hz : V.heap.size = W.heap.size + 1 + 1 := by rw [hV]; simp
  have hS : Sps (V.alloc (.cells #[.int .i64 0, .int .i64 (70000 + z - bh), .int .i64 0, .int .i64 (70000 + z + y - bh)] 49)).heap.size (V.alloc (.cells #[.int .i64 0, .int .i64 (70000 + z - bh), .int .i64 0, .int .i64 (70000 + z + y - bh)] 49)) (.slice (some ⟨V.heap.size, 0, none⟩) 2 2) [(0, 70000 + z - bh), (0, 70000 + z + y - bh)] := by
    refine ⟨_, 2, rfl, Nat.le_refl _, fun k hk => ?_⟩
    have hk2 : k < 2 := hk
    refine ⟨V.heap.size, 0, rfl, by simp, ?_⟩
    obtain rfl | rfl : k = 0 ∨ k = 1 := by omega
    · constructor <;> simp [go_sem, Go.Proofs.Ytcchmjbedppfnaa.sp]
    · constructor <;> simp [go_sem, Go.Proofs.Ytcchmjbedppfnaa.sp]
  rw [hz] at hS
  clear hz hV
  refine (times_two _ _ bh d x (70000 + z - bh) (70000 + z + y - bh) h1 h2 h3 (by omega) (by omega) (V.alloc (.cells #[.int .i64 0, .int .i64 (70000 + z - bh), .int .i64 0, .int .i64 (70000 + z + y - bh)] 49)) (hC.at ((Below.refl _ _).alloc (Nat.le_refl _) _)) hS).mono ?_
  rintro e w' ⟨⟨b, off, c, rfl, hb, c0, c1, c2, c3⟩, hbel⟩
  rw [show 70000 + z - bh + (bh - min d x) = 70000 + z - min d x by omega] at c0
  rw [show 70000 + z - bh + (bh + min d x) = 70000 + z + min d x by omega] at c1
  rw [show 70000 + z + y - bh + (bh - min d x) = 70000 + z + y - min d x by omega] at c2
  rw [show 70000 + z + y - bh + (bh + min d x) = 70000 + z + y + min d x by omega] at c3
  exact ⟨⟨b, off, c, rfl, hb, c0, c1, c2, c3⟩, hbel⟩
/-- how long it took -/
theorem took_ech (z y u : Int) (h4 : 0 ≤ z ∧ z ≤ 536870911) (h5 : 0 ≤ y ∧ y ≤ 39999) (h3 : 0 ≤ u ∧ u ≤ 999) (W : World) :
    Calls Try.prog 65 #[.agg #[.int .i64 (70000 + z + y - u), .int .i64 (70000 + z + y + u)], .agg #[.int .i64 (70000 + z - u), .int .i64 (70000 + z + u)]] W fun e w' => e = .returned (.tuple #[.agg #[.int .i64 (y - 2 * u), .int .i64 (y + 2 * u)], .int .i64 0]) ∧ Below W.heap.size W w' := by
  have e : subS (70000 + z + y - u) (70000 + z + y + u) (70000 + z - u) (70000 + z + u) = ⟨y - 2 * u, y + 2 * u, 0⟩ := by
    unfold subS
    rw [if_pos ⟨(vB_iff _ _).2 (by omega), (vB_iff _ _).2 (by omega)⟩]
    unfold fit
    rw [if_pos ((vB_iff _ _).2 (by omega))]
    rw [show 70000 + z + y - u - (70000 + z + u) = y - 2 * u by omega, show 70000 + z + y + u - (70000 + z - u) = y + 2 * u by omega]
  have q := bsub_any (70000 + z + y - u) (70000 + z + y + u) (70000 + z - u) (70000 + z + u) W
  rw [e] at q
  exact q
theorem nanos_ech (y u : Int) (h5 : 0 ≤ y ∧ y ≤ 39999) (h3 : 0 ≤ u ∧ u ≤ 999) (W : World) :
    Calls Try.prog 64 #[.agg #[.int .i64 (y - 2 * u), .int .i64 (y + 2 * u)], .int .i64 1000, .int .i64 1] W fun e w' => e = .returned (.tuple #[.agg #[.int .i64 (1000 * (y - 2 * u)), .int .i64 (1000 * (y + 2 * u))], .int .i64 0]) ∧ Below W.heap.size W w' := by
  have e : scaleS (y - 2 * u) (y + 2 * u) 1000 1 = ⟨1000 * (y - 2 * u), 1000 * (y + 2 * u), 0⟩ := by
    unfold scaleS
    rw [if_pos ((vB_iff _ _).2 (by omega)), if_pos ⟨⟨by omega, by omega⟩, by omega, by omega⟩]
    rw [show min ((y - 2 * u) * 1000) ((y + 2 * u) * 1000) = 1000 * (y - 2 * u) by omega, show max ((y - 2 * u) * 1000) ((y + 2 * u) * 1000) = 1000 * (y + 2 * u) by omega]
    unfold bup
    rw [Int.ediv_one, Int.ediv_one, Int.neg_neg]
    unfold fit
    rw [if_pos ((vB_iff _ _).2 (by omega))]
  have q := bscale_any (y - 2 * u) (y + 2 * u) 1000 1 W
  rw [e] at q
  exact q
/-- the place contains the true one -/
theorem place_ech {y u f m0 m1 : Int} (h5 : 0 ≤ y ∧ y ≤ 39999) (h3 : 0 ≤ u ∧ u ≤ 999) (hf : 0 ≤ f ∧ f ≤ 99) (h7 : 0 ≤ m0 ∧ m0 ≤ 255) (h8 : 0 ≤ m1 ∧ m1 ≤ 255) :
    max 0 (1000 * (y - 2 * u)) * (2000 * (1 + f) - m0) / 2000000 ≤ (1 + f) * y ∧ (1 + f) * y ≤ (1000 * (y + 2 * u) * (2000 * (1 + f) + m1) + 1999999) / 2000000 := by
  have a1 : max 0 (1000 * (y - 2 * u)) ≤ 1000 * y := by omega
  have a2 : max 0 (1000 * (y - 2 * u)) * (2000 * (1 + f) - m0) ≤ (1000 * y) * (2000 * (1 + f)) := Int.mul_le_mul a1 (by omega) (by omega) (by omega)
  have a3 : (1000 * y) * (2000 * (1 + f)) ≤ 1000 * (y + 2 * u) * (2000 * (1 + f) + m1) := Int.mul_le_mul (by omega) (by omega) (by omega) (by omega)
  have a4 : (1000 * y) * (2000 * (1 + f)) = 2000000 * ((1 + f) * y) := by
    rw [Int.mul_comm (1 + f) y, Int.mul_assoc, ← Int.mul_assoc y, Int.mul_comm y 2000, Int.mul_assoc 2000, ← Int.mul_assoc]; rfl
  generalize max 0 (1000 * (y - 2 * u)) * (2000 * (1 + f) - m0) = p at *
  generalize 1000 * (y + 2 * u) * (2000 * (1 + f) + m1) = q at *
  generalize (1 + f) * y = g at *
  omega
end Go.Proofs.Ytcchmjbedppfnaa

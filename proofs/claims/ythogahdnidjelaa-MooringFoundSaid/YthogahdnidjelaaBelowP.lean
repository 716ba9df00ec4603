/-
  below: what is found below each element.
-/
import Derived.Test.YthogahdnidjelaaMRows
namespace Go.Proofs.Ythogahdnidjelaa
open Go.RowKit Go.Shelf
set_option linter.unusedSimpArgs false
theorem own_below {W W' : World} {base : Nat} {e : TypeId} {size n : Nat} {v : Value} {xs : List Value} (h : W.ownsRow base e size v n xs) (hb : Below W.heap.size W W') : W'.ownsRow base e size v n xs :=
  own_keep h fun j hj => hb.block j (h.lt j hj).2
theorem own_step {W W' : World} {B : Nat} {a b c d : Int} {e : TypeId} {size n : Nat} {v : Value} {xs : List Value} (h : W.ownsRow (B + 1) e size v n xs) (hb : Below W.heap.size (setS W B a b c d) W') : W'.ownsRow (B + 1) e size v n xs :=
  own_keep h fun j hj => by
    have := h.lt j hj
    rw [hb.block j this.2, setS_other _ _ _ _ _ _ (by omega)]
theorem SumsAt.block {W W' : World} {B : Nat} {free : Bool} {a b c d : Int} (h : SumsAt W B free a b c d) (hs : W.heap.size ≤ W'.heap.size) (hb : W'.heap[B]? = W.heap[B]?) : SumsAt W' B free a b c d := by
  have ec : ∀ o, W'.cell? ⟨B, o, none⟩ = W.cell? ⟨B, o, none⟩ := fun o => by simp only [World.cell?, hb]
  have ef : ∀ o, W'.frozen? ⟨B, o, none⟩ = W.frozen? ⟨B, o, none⟩ := fun o => by simp only [World.frozen?, hb]
  obtain ⟨z, k0, k1, k2, k3, k4, f1, f2, f3, f4⟩ := h
  exact ⟨by omega, (ec 0).trans k0, (ec 1).trans k1, (ec 2).trans k2, (ec 3).trans k3, (ec 4).trans k4, (ef 1).trans f1, (ef 2).trans f2, (ef 3).trans f3, (ef 4).trans f4⟩
theorem rig_grown {W W' : World} {B : Nat} {free : Bool} {zs : List El} {cs : List Pr} {k : Nat} {row : Option Nat} (h : RigAt W B free zs cs k) (hg : W.grownBy W' row) (hne : row = some B → False) : RigAt W' B free zs cs k :=
  SumsAt.block h hg.size (hg.block B h.lt (fun e => hne e.symm))
theorem setS_cell {W W' : World} {B : Nat} {a b c d : Int} (hb : Below W.heap.size (setS W B a b c d) W') {p : Addr} (h : p.block < W.heap.size) (hne : p.block ≠ B) : W'.cell? p = W.cell? p := by
  rw [hb.cell h]
  unfold World.cell?
  rw [setS_other _ _ _ _ _ _ hne]
theorem SumsAt.new (w : World) (o : Obj) (free : Bool) : SumsAt ((w.alloc o).alloc (.cells #[.bool free, .int .i64 0, .int .i64 0, .int .i64 0, .int .i64 0] 100)) (w.heap.size + 1) free 0 0 0 0 := by
  constructor <;> simp [go_sem]
set_option maxRecDepth 100000 in
set_option maxHeartbeats 4000000 in
theorem below_pull (d an fr : Int) (sv cv : Value) (zs : List El) (cs : List Pr) (free : Bool) (h : Rig zs cs) (w : World) (hI : Els w.heap.size w sv zs) (hC : Prs w.heap.size w cv cs) :
    Calls Try.prog 61 #[.agg #[.int .i64 d, sv, .int .i64 an, .int .i64 fr], cv, .bool free, .func (.func 62) #[] #[]] w fun e w' => ∃ v, e = .returned v ∧ Prs w'.heap.size w' v (rowL (pulG free zs cs) zs.length) ∧ Below w.heap.size w w' := by
  have CA := Lib.hid (fun k hk W hS => rig_add h free (w.heap.size + 1) (k := k) hk W hS)
  have CF := Lib.hid (fun k hk W hS => find_pull h free (w.heap.size + 1) (k := k) hk W hS)
  have hl := h.most
  have hcl := h.same
  obtain ⟨a, cap, rfl, -, hcell⟩ := hI
  obtain ⟨c, cap2, rfl, -, hcur⟩ := hC
  have HC := Lib.hid hcell
  have HU := Lib.hid hcur
  clear hcell hcur h
  rw [hcl] at HU ⊢
  obtain ⟨i0, hi0, hz0, hz1, hz2⟩ := info_parts infoSp
  have hb16 : i0.bytes * zs.length ≤ 281474976710656 := by rw [hz2]; omega
  generalize zs.length = len at *
  go_enter Try.func61, Try.ntmps61
  have hS0 := SumsAt.new w (.cells #[.int .i64 d, .slice a len cap, .int .i64 an, .int .i64 fr] 24) free
  go_wp2_with (at_make; (refine wpList_make_own _ rfl _ _ 25 rfl (w.heap.size + 2) 41 i0 (.agg #[.int .i64 0, .int .i64 0]) 2 Try.underlying25 hi0 hz0 hz1 _ _ _ len rfl rfl rfl hb16 (by unfold maxLen; omega) (by simp) ?_); intro w1 hown1 hgrow1; have hB0 := (Below.refl _ _).grown hgrow1 (Nat.le_refl _) (fun j hj => by cases hj); have hS1 := hS0.at hB0; have hB1 : Below w.heap.size w w1 := Below.trans (((Below.refl _ _).alloc (Nat.le_refl _) _).alloc (by simp) _) (hB0.mono (by simp; omega)); have hsl : w1.cell? ⟨w.heap.size, 1, none⟩ = some (.slice a len cap) := hgrow1.cell (by simp [go_sem]) (by simp))
  go_loopw [10, 21] (fun v i wr => ∃ k : Nat, k ≤ len ∧ i = .int .i64 k ∧ wr.ownsRow (w.heap.size + 2) 41 2 v k (flatP (rowL (pulG free zs cs) k)) ∧ RigAt wr (w.heap.size + 1) free zs cs k ∧ Below w.heap.size w wr) (fun _ i _ => len - (intOf i).toNat)
  case atStart => exact ⟨0, Nat.zero_le _, rfl, by simpa [rowL, flatP] using hown1, hS1, hB1⟩
  case round =>
    obtain ⟨k, hk, rfl, hrow, hR, hB⟩ := hrel
    have hsz := hB.size
    have hlt0 := hR.lt
    by_cases hlt : k < len
    · obtain ⟨b, off, rfl, hb, e0, e1, e2, e3⟩ := HC.out k hlt
      obtain ⟨b2, off2, rfl, hb2, u0, u1⟩ := HU.out k (by omega)
      have ca := CA.out k hlt
      have cf := CF.out (k + 1) (by omega)
      have HT := Lib.hid (show rowL (pulG free zs cs) (k + 1) = rowL (pulG free zs cs) k ++ [pulG free zs cs (k + 1)] from rfl)
      generalize pulG free zs cs (k + 1) = g at *
      unfold elv prv at ca
      unfold prv at cf
      generalize el zs k = x at *
      generalize pr cs k = y at *
      obtain ⟨x0, x1, x2, x3⟩ := x
      obtain ⟨y0, y1⟩ := y
      obtain ⟨g0, g1⟩ := g
      dsimp only at *
      have m0 := (hB.cell (p := ⟨b, off + k * 4, none⟩) hb).trans e0
      have m1 := (hB.cell (p := ⟨b, off + k * 4 + 1, none⟩) hb).trans e1
      have m2 := (hB.cell (p := ⟨b, off + k * 4 + 2, none⟩) hb).trans e2
      have m3 := (hB.cell (p := ⟨b, off + k * 4 + 3, none⟩) hb).trans e3
      have n0 := (hB.cell (p := ⟨b2, off2 + k * 2, none⟩) hb2).trans u0
      have n1 := (hB.cell (p := ⟨b2, off2 + k * 2 + 1, none⟩) hb2).trans u1
      clear e0 e1 e2 e3 u0 u1
      have q1 : ¬ wr.heap.size = b2 := by omega
      have q2 : ¬ b2 = wr.heap.size := by omega
      have q3 : b2 < wr.heap.size := by omega
      generalize hnl : flatP (rowL (pulG free zs cs) k) = nl at hrow
      have HNL := Lib.hid hnl
      clear hnl
      have HRow := Lib.hid hrow
      have HR := Lib.hid hR
      have HB := Lib.hid hB
      clear hrow hR hB
      go_wp2_with fail
      go_region_held3 (fun w' => w'.cell? ⟨wr.heap.size, 0, none⟩ = some (.int .i64 x0) ∧ w'.cell? ⟨wr.heap.size, 1, none⟩ = some (.int .i64 x1) ∧ w'.cell? ⟨wr.heap.size, 2, none⟩ = some (.int .i64 x2) ∧ w'.cell? ⟨wr.heap.size, 3, none⟩ = some (.int .i64 x3) ∧ w'.cell? ⟨b2, off2 + k * 2, none⟩ = some (.int .i64 y0) ∧ w'.cell? ⟨b2, off2 + k * 2 + 1, none⟩ = some (.int .i64 y1)) ((first | (simp [go_sem, *]; done) | (fail)))
        (first | (go_at_call 97; refine (ca _ (HR.out.at ((Below.refl _ _).alloc (Nat.le_refl _) _ |>.drew))).mono ?_; rintro e w2 ⟨rfl, hR2, hb2'⟩; have hcc := Lib.hid (fun b o (h1 : b < _) (h2 : b ≠ w.heap.size + 1) => setS_cell hb2' (p := ⟨b, o, none⟩) h1 h2); have kk0 : w2.cell? ⟨wr.heap.size, 0, none⟩ = some (.int .i64 x0) := (hcc.out _ _ (by first | omega | (simp; done) | (simp; omega)) (by omega)).trans (by simp [go_sem, *]); have kk1 : w2.cell? ⟨wr.heap.size, 1, none⟩ = some (.int .i64 x1) := (hcc.out _ _ (by first | omega | (simp; done) | (simp; omega)) (by omega)).trans (by simp [go_sem, *]); have kk2 : w2.cell? ⟨wr.heap.size, 2, none⟩ = some (.int .i64 x2) := (hcc.out _ _ (by first | omega | (simp; done) | (simp; omega)) (by omega)).trans (by simp [go_sem, *]); have kk3 : w2.cell? ⟨wr.heap.size, 3, none⟩ = some (.int .i64 x3) := (hcc.out _ _ (by first | omega | (simp; done) | (simp; omega)) (by omega)).trans (by simp [go_sem, *]); have kk4 : w2.cell? ⟨b2, off2 + k * 2, none⟩ = some (.int .i64 y0) := (hcc.out _ _ (by first | omega | (simp; done) | (simp; omega)) (by omega)).trans (by simp [go_sem, *]); have kk5 : w2.cell? ⟨b2, off2 + k * 2 + 1, none⟩ = some (.int .i64 y1) := (hcc.out _ _ (by first | omega | (simp; done) | (simp; omega)) (by omega)).trans (by simp [go_sem, *])))
      have hw2 := hb2'.size
      rw [setS_size] at hw2
      simp at hw2
      have row2 := own_step ((HRow.out.alloc _).drew) hb2'
      have hB2 := setS_step ((HB.out.alloc (by omega) _).drew) (by omega) (by simp; omega) hb2'
      have CC := Lib.hid (cf _ hR2)
      have HR2 := Lib.hid hR2
      have ROW2 := Lib.hid row2
      have HB2 := Lib.hid hB2
      clear hcc hb2' hR2 row2 hB2 kk0 kk1 kk2 kk3 kk4 kk5 m0 m1 m2 m3 n0 n1 cf
      go_wp2_with fail
      refine CC.out.mono ?_
      rintro e w3 ⟨rfl, hb3⟩
      have row3 := own_below ROW2.out hb3
      have hB3 := HB2.out.trans (hb3.mono (by omega))
      have hR3 := HR2.out.at hb3
      have hw3 := hb3.size
      have ROW3 := Lib.hid row3
      have HR3 := Lib.hid hR3
      have HB3 := Lib.hid hB3
      clear row3 hB3 hR3 hb3
      go_wp2_with (at_builtin; refine wpList_append_own _ rfl _ _ 25 rfl (w.heap.size + 2) 41 i0 (.agg #[.int .i64 0, .int .i64 0]) 2 16 Try.underlying25 hi0 hz0 hz1 hz2 rfl (by decide) _ _ _ rfl (ROW3.out.alloc _) ⟨w3.heap.size, 0, none⟩ 1 1 [.int .i64 g0, .int .i64 g1] rfl rfl (two_new _ _ _) (by simp [Value.oneCell']) (by unfold maxLen; omega) (by omega) (by simp; omega) ?_; intro v' w5 hrow' hgrow _)
      have hB5 : Below w.heap.size w w5 := (HB3.out.alloc (by omega) _).grown hgrow (by simp; omega) (fun j hj => by have := (ROW3.out.lt j hj).1; omega)
      have hR5 := rig_grown (HR3.out.at ((Below.refl _ _).alloc (Nat.le_refl _) _)) hgrow (fun hj => by have := (ROW3.out.lt _ hj).1; omega)
      go_roundw
      case rel => exact ⟨k + 1, by omega, by go_num, by rw [HT.out, flatP_snoc, HNL.out]; exact hrow', hR5, hB5⟩
      case measure => simp [intOf]; omega
    · obtain rfl : k = len := by omega
      have hn := prs_of_owns (cs := rowL (pulG free zs cs) k) (by rw [rowL_len]; exact hrow)
      have HN := Lib.hid hn
      have HB := Lib.hid hB
      clear hrow hR hB hn
      go_wp2_with fail
      go_ret
      exact ⟨_, rfl, HN.out, HB.out⟩
end Go.Proofs.Ythogahdnidjelaa

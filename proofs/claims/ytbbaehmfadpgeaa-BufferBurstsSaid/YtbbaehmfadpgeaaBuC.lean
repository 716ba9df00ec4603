/-
  Bursts: the records that are sent.
-/
import Derived.Test.YtbbaehmfadpgeaaBuB
namespace Go.Proofs.Ytbbaehmfadpgeaa
open Go.RowKit Go.Shelf
set_option linter.unusedSimpArgs false
attribute [local go_sem] Oper.semAt_some
theorem room_none {F : Fence} (hd : F.depth = none) (k : Nat) : F.room k := fun d h => by rw [hd] at h; cases h
theorem roundIn_wide {m m' l₂ : Nat} {P : Program} {l : Nat} {f : FuncId} {tmps : Array Value} {assign body : Code} {w : World} {R : Ending → World → Prop}
    (h : RoundIn Fence.wide m P l f tmps assign body w R) : RoundIn (Fence.wide.inRound l₂) m' P l f tmps assign body w R := ⟨h.1, fun c cs _ => h.2 c cs (room_none rfl _)⟩
/-- the blocks that a round of the caller leaves as they are -/
def SnQ (B3 B4 b N : Nat) (p : Option Addr) (q : Nat) : Prop := q = B3 ∨ q = B4 ∨ q = b ∨ pB p q ∨ (N ≤ q ∧ q < N + 3)
def SnK (N : Nat) (Q : Nat → Prop) (Z Z' : World) : Prop := KeepsFrom N Z Z' ∧ KeepQ Q Z Z'
theorem SnK.trans {N : Nat} {Q : Nat → Prop} {A B C : World} (h : SnK N Q A B) (k : SnK N Q B C) : SnK N Q A C := ⟨h.1.trans k.1, h.2.trans k.2⟩
/-- between two rounds over the records -/
def SnI (N l B3 B4 b : Nat) (p : Option Addr) (t wt r : Int) {L : List Hd} (W0 : World) (J : List {x // x ∈ L} → World → Prop) (pre : List {x // x ∈ L}) (Z : World) : Prop :=
  J (sndG (·.1) t wt r pre) Z ∧ Z.heap[N]? = some (.cells #[.func (.yield l) #[] #[]] 153 (0, 0)) ∧ Z.heap[N + 1]? = some (.cells #[.int .i64 (lftG (·.1) t wt r pre)] 2 (0, 0)) ∧ Z.heap[N + 2]? = W0.heap[N + 2]? ∧
  Z.heap[B3]? = some (.cells #[.int .i64 t] 2 (0, 0)) ∧ Z.heap[B4]? = some (.cells #[.int .i64 wt] 2 (0, 0)) ∧ Z.heap[b]? = W0.heap[b]? ∧ (∀ q, pB p q → Z.heap[q]? = W0.heap[q]?) ∧ N + 3 ≤ Z.heap.size
theorem SnI.below {N l B3 B4 b : Nat} {p : Option Addr} {t wt r : Int} {L : List Hd} {W0 : World} {J : List {x // x ∈ L} → World → Prop} (hJ : ∀ pre Z Z', J pre Z → SameBut N (N + 3) Z Z' → J pre Z') {pre : List {x // x ∈ L}} {Z Z' : World} (h : SnI N l B3 B4 b p t wt r W0 J pre Z) (hB : B3 < N ∧ B4 < N ∧ b < N ∧ ∀ q, pB p q → q < N) (hs : Below Z.heap.size Z Z') : SnI N l B3 B4 b p t wt r W0 J pre Z' := by
  obtain ⟨h1, h2, h3, h4, h5, h6, h7, h8, h9⟩ := h
  have e : ∀ k, k < Z.heap.size → Z'.heap[k]? = Z.heap[k]? := fun k hk => hs.block k hk
  exact ⟨hJ _ _ _ h1 (SameBut.of hs), (e N (by omega)).trans h2, (e _ (by omega)).trans h3, (e _ (by omega)).trans h4, (e _ (by omega)).trans h5, (e _ (by omega)).trans h6, (e _ (by omega)).trans h7, fun q hq => (e q (by have := hB.2.2.2 q hq; omega)).trans (h8 q hq), Nat.le_trans h9 hs.size⟩
theorem SnI.own {N l B3 B4 b B : Nat} {p : Option Addr} {t wt r : Int} {L : List Hd} {W0 : World} {J : List {x // x ∈ L} → World → Prop} (hJ : OwnFrom N J) (hB : B3 < N ∧ B4 < N ∧ b < N ∧ ∀ q, pB p q → q < N) (hN : N + 3 ≤ B) : OwnFrom B (SnI N l B3 B4 b p t wt r W0 J) := by
  intro pre X Y row hs hg hr
  obtain ⟨h1, h2, h3, h4, h5, h6, h7, h8, h9⟩ := hs
  have e : ∀ k, k < N + 3 → Y.heap[k]? = X.heap[k]? := fun k hk => heap_kept hg hr (by omega) (by omega)
  exact ⟨hJ _ _ _ row h1 hg (fun r e => ⟨by have := (hr r e).1; omega, (hr r e).2⟩), (e N (by omega)).trans h2, (e _ (by omega)).trans h3, (e _ (by omega)).trans h4, (e _ (by omega)).trans h5, (e _ (by omega)).trans h6, (e _ (by omega)).trans h7, fun q hq => (e q (by have := hB.2.2.2 q hq; omega)).trans (h8 q hq), Nat.le_trans h9 hg.size⟩
set_option maxRecDepth 100000 in
set_option maxHeartbeats 8000000 in
/-- what a burst sends, one after another -/
theorem sending_at (m : Nat) (hm : 4 ≤ m) (B1 Bb B3 B4 b M c : Nat) (p : Option Addr) (r t wt : Int) (L : List Hd) (hok : ∀ x ∈ L, OkR x.r) (hlen : L.length ≤ 1000) (hr : 0 ≤ r ∧ r ≤ 16777216) (ht : 0 ≤ t ∧ t ≤ 1073741824) (hwt : 0 ≤ wt ∧ wt ≤ 1073741824) (w : World)
    (hB1 : w.cell? ⟨B1, 0, none⟩ = some (.int .i64 r)) (hBb : w.cell? ⟨Bb, 0, none⟩ = some (.pointer (some ⟨b, 0, none⟩))) (hB3 : w.heap[B3]? = some (.cells #[.int .i64 t] 2 (0, 0))) (hB4 : w.heap[B4]? = some (.cells #[.int .i64 wt] 2 (0, 0)))
    (h3 : w.cell? ⟨b, 3, none⟩ = some (.map (some M))) (h4 : w.cell? ⟨b, 4, none⟩ = some (.slice p L.length c)) (hc : ∀ k (hk : k < L.length), ∃ g, p = some ⟨g, 0, none⟩ ∧ w.cell? ⟨g, k, none⟩ = some (.int .i64 (L[k].r.id))) (hpw : ∀ q, pB p q → q < w.heap.size) :
    SeqAt m Try.prog 89 #[.pointer (some ⟨B1, 0, none⟩), .pointer (some ⟨Bb, 0, none⟩), .pointer (some ⟨B3, 0, none⟩), .pointer (some ⟨B4, 0, none⟩)] (fun x : {x // x ∈ L} => #[vH x.1]) (SnK (w.heap.size + 2) (SnQ B3 B4 b (w.heap.size + 2) p))
      (fun pre Z => ∀ k (hk : k < L.length), pre = sndG (·.1) t wt r (L.attach.take k) → (Instr.lookup 106 (.map (some M)) (.int .i64 (L[k].r.id)) false).run Try.prog Z = .ok (vH L[k]) Z) (fun ys => ys = sndG (·.1) t wt r L.attach) 1000 3 w := by
  intro J W hW hWz hJ hPJ hJK hY h0
  obtain ⟨N, hN⟩ : ∃ N, N = w.heap.size + 2 := ⟨_, rfl⟩
  have hB3w := (Array.getElem?_eq_some_iff.1 hB3).1
  have hB4w := (Array.getElem?_eq_some_iff.1 hB4).1
  have hB1w := World.block_lt_of_cell? w _ hB1
  have hBbw := World.block_lt_of_cell? w _ hBb
  have hbw := World.block_lt_of_cell? w _ h3
  simp only at hB1w hBbw hbw
  have kB1 := (hW.cell (p := ⟨B1, 0, none⟩) hB1w).trans hB1
  have kBb := (hW.cell (p := ⟨Bb, 0, none⟩) hBbw).trans hBb
  have hB1W : B1 < W.heap.size := by omega
  have hBbW : Bb < W.heap.size := by omega
  have hlt : B3 < N ∧ B4 < N ∧ b < N ∧ ∀ q, pB p q → q < N := ⟨by omega, by omega, by omega, fun q hq => by have := hpw q hq; omega⟩
  obtain ⟨W5, hW5⟩ : ∃ W5, W5 = ((W.alloc (.cells #[.func (.yield (w.heap.size + 1)) #[] #[]] 153)).alloc (.cells #[.int .i64 r] 2)).alloc (.cells #[.pointer (some ⟨b, 0, none⟩)] 27) := ⟨_, rfl⟩
  have hb5 : Below W.heap.size W W5 := by rw [hW5]; exact (((Below.refl _ _).alloc (Nat.le_refl _) _).alloc (by simp) _).alloc (by simp; omega) _
  have hz5 : W5.heap.size = N + 3 := by rw [hW5]; simp; omega
  have hV5 : W5.heap[N]? = some (.cells #[.func (.yield (w.heap.size + 1)) #[] #[]] 153 (0, 0)) := by rw [hW5, hN, ← hWz]; exact (Below.heap_alloc _ _ _ (by simp; omega)).trans ((Below.heap_alloc _ _ _ (by simp)).trans (World.alloc_heap_new W _))
  have hL5 : W5.heap[N + 1]? = some (.cells #[.int .i64 r] 2 (0, 0)) := by
    rw [hW5, hN, ← hWz]; refine (Below.heap_alloc _ _ _ (by simp)).trans ?_
    have q := World.alloc_heap_new (W.alloc (.cells #[.func (.yield (w.heap.size + 1)) #[] #[]] 153)) (.cells #[.int .i64 r] 2)
    simpa using q
  have hR5 : W5.heap[N + 2]? = some (.cells #[.pointer (some ⟨b, 0, none⟩)] 27 (0, 0)) := by
    rw [hW5, hN, ← hWz]
    have q := World.alloc_heap_new ((W.alloc (.cells #[.func (.yield (w.heap.size + 1)) #[] #[]] 153)).alloc (.cells #[.int .i64 r] 2)) (.cells #[.pointer (some ⟨b, 0, none⟩)] 27)
    simpa using q
  have hbw5 := hW.trans (hb5.mono hW.size)
  have h5b : ∀ o u, w.cell? ⟨b, o, none⟩ = some u → W5.cell? ⟨b, o, none⟩ = some u := fun o u h => (hbw5.cell (p := ⟨b, o, none⟩) hbw).trans h
  have hseq := rank_at (fun q => q = N + 2 ∨ q = b ∨ pB p q) (m - 1) (by omega) (N + 2) b M c p L hlen W5 (fun q hq => by rcases hq with rfl | rfl | hq <;> first | omega | (have := hpw q hq; omega)) (.inl rfl) (.inr (.inl rfl)) ((cellH hR5 0).trans (by simp)) (h5b 3 _ h3) (h5b 4 _ h4) (fun k hk => by
    obtain ⟨g, e, hx⟩ := hc k hk
    exact ⟨g, e, .inr (.inr ⟨g, e, rfl⟩), (hbw5.cell (p := ⟨g, k, none⟩) (hpw g ⟨g, e, rfl⟩)).trans hx⟩)
  have HBY := Lib.hid (show ∀ x ∈ L, 0 ≤ byH x ∧ byH x ≤ 16777216 from fun x hx => by
    have h2 := hok x hx
    unfold OkR at h2
    unfold byH
    split <;> omega)
  have HLF := Lib.hid (show ∀ pre : List {x // x ∈ L}, 0 ≤ lftG (·.1) t wt r pre ∧ lftG (·.1) t wt r pre ≤ r from fun pre => lftG_bd _ _ _ pre r (fun x _ => (HBY.out x.1 x.2).1) hr.1)
  have HYES := Lib.hid (fun (pre : List {x // x ∈ L}) (x : {x // x ∈ L}) h => sndG_yes (·.1) t wt x pre r h)
  have HNO := Lib.hid (fun (pre : List {x // x ∈ L}) (x : {x // x ∈ L}) h => sndG_no (·.1) t wt x pre r h)
  have HSL := Lib.hid (fun (pre : List {x // x ∈ L}) => sndG_len (·.1) t wt pre r)
  have HI0 := Lib.hid (show SnI N (w.heap.size + 1) B3 B4 b p t wt r W5 J [] W5 from ⟨hJK _ _ _ h0 (SameBut.of hb5), hV5, hL5, rfl, (hbw5.block B3 hB3w).trans hB3, (hbw5.block B4 hB4w).trans hB4, rfl, fun _ _ => rfl, by omega⟩)
  have HPJ := Lib.hid hPJ
  have HJK := Lib.hid (show ∀ pre Z Z', J pre Z → SameBut N (N + 3) Z Z' → J pre Z' by rw [hN]; exact hJK)
  have HJ := Lib.hid (show OwnFrom N J by rw [hN, ← hWz]; exact hJ)
  have HY := Lib.hid hY
  have HLT := Lib.hid hlt
  have HZ5 := Lib.hid hz5
  have HNW := Lib.hid (show N = W.heap.size by omega)
  have HN := Lib.hid hN
  clear hJ hPJ hJK hY h0 hB1 hBb hB3 hB4 h3 h4 hc hpw hV5 hL5 hR5 hbw5 h5b hb5 hlt hW hWz hB3w hB4w hB1w hBbw hbw
  refine callsIn_of_wp_marks Try.func89 rfl trivial ?_ rfl
  simp only [Try.ntmps89, List.size_toArray, List.length_cons, List.length_nil, Nat.reduceAdd, Nat.reduceSub, Array.replicate_succ, Array.replicate_zero, List.push_toArray, List.append_toArray, List.nil_append, List.cons_append]
  clear hN hz5
  gi_wp2
  refine ⟨trivial, fun _ => by omega, ?_⟩
  refine (callsIn_wide.2 (ranked_any b _)).mono ?_
  rintro e w1 ⟨rfl, rfl⟩
  gi_wp2
  rw [← hW5, show W.heap.size = N from HNW.out.symm]
  clear hW5 kB1 kBb hB1W hBbW
  have HQ5 := Lib.hid (show ∀ q, (q = N + 2 ∨ q = b ∨ pB p q) → q < W5.heap.size from fun q hq => by
    have h1 := HLT.out
    have h2 := HZ5.out
    rcases hq with rfl | rfl | hq
    · omega
    · omega
    · have := h1.2.2.2 q hq
      omega)
  refine range_at (by omega) (gf := 94) (lb := #[.pointer (some ⟨N + 1 + 1, 0, none⟩)]) rfl (enters_of Try.func94 (by kernel_rfl) rfl) hseq (fun h1 h2 => h1.trans h2) (fun X o o' hl _ => ⟨by simp, fun q hq => World.putObj_heap_other (by have := HQ5.out q hq; omega)⟩) (fun _ => rfl)
    (SnI N (w.heap.size + 1) B3 B4 b p t wt r W5 J) (SnI.own HJ.out HLT.out (by have := HZ5.out; omega)) (fun pre X h k hk e => HPJ.out _ X h.1 k hk (by rw [e])) (fun pre X X' h hs => h.below HJK.out HLT.out ⟨hs.os, hs.tape, hs.output, hs.size, fun k hk => hs.block k hk (by omega)⟩) HI0.out
    (fun x a' X => ∃ Bx, W5.heap.size ≤ Bx ∧ BxH X Bx x.1 ∧ a' = { tmps := #[.func (.yield (w.heap.size + 1)) #[] #[], .pointer (some ⟨B1, 0, none⟩), .pointer (some ⟨Bb, 0, none⟩), .pointer (some ⟨B3, 0, none⟩), .pointer (some ⟨B4, 0, none⟩), .pointer (some ⟨N, 0, none⟩), .pointer (some ⟨N + 1, 0, none⟩), .pointer (some ⟨Bx, 0, none⟩), undef, .int .i64 r, .pointer (some ⟨b, 0, none⟩), .func (.func 94) #[] #[.pointer (some ⟨N + 1 + 1, 0, none⟩)], vH x.1, undef, undef, undef, undef, undef, undef, undef, undef, undef, undef, undef, undef, undef, undef, undef, undef, undef, undef, undef, undef, undef, undef, undef, undef, undef, undef], defers := [] })
    (fun x a' _ X Y row hs hg hr => by obtain ⟨Bx, h1, h2, h3⟩ := hs; exact ⟨Bx, h1, cell_kept hg hr h2, h3⟩)
    ?assign ?body ?done
  case assign =>
    rintro l pre x X K hi _ hK
    have hsz := hi.2.2.2.2.2.2.2.2
    have HI := Lib.hid hi
    clear hi
    unfold vH at *
    gi_wp2
    exact hK _ _ ((KeepsOthers.alloc _ _).from _) ⟨by simp, fun q hq => Below.heap_alloc _ _ _ (by have := HQ5.out q hq; have := HZ5.out; omega)⟩ (HI.out.below HJK.out HLT.out ((Below.refl _ _).alloc (Nat.le_refl _) _)) ⟨X.heap.size, by have := HZ5.out; omega, BxH.new X _, rfl⟩
  case body =>
    rintro l pre ⟨x, hx⟩ a' Z hi _ ⟨Bx, hBx, bX, rfl⟩ hpl
    have hby := HBY.out x hx
    have hlf := HLF.out pre
    obtain ⟨lf, hlfe⟩ : ∃ lf, lf = lftG (fun y : {x // x ∈ L} => y.1) t wt r pre := ⟨_, rfl⟩
    have HLFE := Lib.hid hlfe
    rw [← hlfe] at hlf
    have HI := Lib.hid hi
    have HI3 := Lib.hid (show Z.heap[N + 1]? = some (.cells #[.int .i64 lf] 2 (0, 0)) by rw [hlfe]; exact hi.2.2.1)
    have HX := Lib.hid bX
    have hsz := hi.2.2.2.2.2.2.2.2
    have hNZ : N + 1 < Z.heap.size := by omega
    have HQZ := Lib.hid (show ∀ q, (q = N + 2 ∨ q = b ∨ pB p q) → q < Z.heap.size from fun q hq => by have := HQ5.out q hq; have := HZ5.out; omega)
    have t0 : Z.cell? ⟨B3, 0, none⟩ = some (.int .i64 t) := (cellH hi.2.2.2.2.1 0).trans (by simp)
    have t1 : Z.cell? ⟨B4, 0, none⟩ = some (.int .i64 wt) := (cellH hi.2.2.2.2.2.1 0).trans (by simp)
    have l0 : Z.cell? ⟨N + 1, 0, none⟩ = some (.int .i64 lf) := (cellH HI3.out 0).trans (by simp)
    have lf0 : Z.frozen? ⟨N + 1, 0, none⟩ = false := frozH HI3.out 0
    have q6 : Z.cell? ⟨Bx, 6, none⟩ = some (.int .i64 x.sent) := (cellH bX 6).trans (by simp)
    have KZ := Lib.hid (show ∀ W1, Below Z.heap.size Z W1 → W1.cell? ⟨Bx, 0, none⟩ = some (Value.int .i64 x.r.id) ∧ W1.cell? ⟨Bx, 1, none⟩ = some (Value.int .i64 x.r.cls) ∧ W1.cell? ⟨Bx, 2, none⟩ = some (Value.int .i64 x.r.made) ∧ W1.cell? ⟨Bx, 3, none⟩ = some (Value.int .i64 x.r.size) ∧ W1.cell? ⟨Bx, 4, none⟩ = some (Value.int .i64 x.r.packed) ∧ W1.cell? ⟨Bx, 5, none⟩ = some (Value.bool x.small) ∧ W1.cell? ⟨Bx, 6, none⟩ = some (Value.int .i64 x.sent) ∧ W1.cell? ⟨N + 1, 0, none⟩ = some (Value.int .i64 lf) from fun W1 h => by
      have k := HX.out.keep h
      exact ⟨(cellH k 0).trans (by simp), (cellH k 1).trans (by simp), (cellH k 2).trans (by simp), (cellH k 3).trans (by simp), (cellH k 4).trans (by simp), (cellH k 5).trans (by simp), (cellH k 6).trans (by simp), (cellH ((h.block (N + 1) (by omega)).trans HI3.out) 0).trans (by simp)⟩)
    have cB := fun W => bytesOf_any x W
    unfold vH at cB
    have hwt2 : IntKind.i64.wrap (t - wt) = t - wt := by rw [IntKind.wrap_i64]; omega
    have hwl : IntKind.i64.wrap (lf - byH x) = lf - byH x := by rw [IntKind.wrap_i64]; omega
    have HBX := Lib.hid hBx
    have hBxN : Bx ≠ N + 1 := by have := HZ5.out; omega
    have hNBx : N + 1 ≠ Bx := fun e => hBxN e.symm
    clear hi bX hlfe hseq hBx
    unfold vH
    by_cases hs1 : x.sent = -1
    · have HS := Lib.hid (show x.sent = -1 ∨ x.sent ≤ t - wt from .inl hs1)
      have HS1 := Lib.hid hs1
      have hs1b : ((-1 : Int) == -1) = true := by simp
      rw [hs1] at cB q6
      have KZ := Lib.hid (show ∀ W1, Below Z.heap.size Z W1 → W1.cell? ⟨Bx, 0, none⟩ = some (Value.int .i64 x.r.id) ∧ W1.cell? ⟨Bx, 1, none⟩ = some (Value.int .i64 x.r.cls) ∧ W1.cell? ⟨Bx, 2, none⟩ = some (Value.int .i64 x.r.made) ∧ W1.cell? ⟨Bx, 3, none⟩ = some (Value.int .i64 x.r.size) ∧ W1.cell? ⟨Bx, 4, none⟩ = some (Value.int .i64 x.r.packed) ∧ W1.cell? ⟨Bx, 5, none⟩ = some (Value.bool x.small) ∧ W1.cell? ⟨Bx, 6, none⟩ = some (Value.int .i64 (-1)) ∧ W1.cell? ⟨N + 1, 0, none⟩ = some (Value.int .i64 lf) from fun W1 h => by have q := KZ.out W1 h; rw [hs1] at q; exact q)
      rw [hs1]
      clear hs1
      by_cases hfit : byH x ≤ lf
      · have HNX := Lib.hid (HYES.out pre ⟨x, hx⟩ ⟨HS.out, by rw [HLFE.out] at hfit; exact hfit⟩)
        rw [← HLFE.out] at HNX
        gi_wp2
        clear hs1b
        have KS := Lib.hid (show ∀ W1, Below Z.heap.size Z W1 → W1.cell? ⟨Bx, 0, none⟩ = some (Value.int .i64 x.r.id) ∧ W1.cell? ⟨Bx, 1, none⟩ = some (Value.int .i64 x.r.cls) ∧ W1.cell? ⟨Bx, 2, none⟩ = some (Value.int .i64 x.r.made) ∧ W1.cell? ⟨Bx, 3, none⟩ = some (Value.int .i64 x.r.size) ∧ W1.cell? ⟨Bx, 4, none⟩ = some (Value.int .i64 x.r.packed) ∧ W1.cell? ⟨Bx, 5, none⟩ = some (Value.bool x.small) ∧ W1.cell? ⟨Bx, 6, none⟩ = some (Value.int .i64 (-1)) ∧ W1.cell? ⟨N + 1, 0, none⟩ = some (Value.int .i64 lf) from fun W1 h => KZ.out W1 h)
        have HD0 := Lib.hid (show Below Z.heap.size Z Z.drew from (Below.refl _ _).drew)
        refine wpIn_round_held (S := fun w' => w'.cell? ⟨Bx, 0, none⟩ = some (Value.int .i64 x.r.id) ∧ w'.cell? ⟨Bx, 1, none⟩ = some (Value.int .i64 x.r.cls) ∧ w'.cell? ⟨Bx, 2, none⟩ = some (Value.int .i64 x.r.made) ∧ w'.cell? ⟨Bx, 3, none⟩ = some (Value.int .i64 x.r.size) ∧ w'.cell? ⟨Bx, 4, none⟩ = some (Value.int .i64 x.r.packed) ∧ w'.cell? ⟨Bx, 5, none⟩ = some (Value.bool x.small) ∧ w'.cell? ⟨Bx, 6, none⟩ = some (Value.int .i64 (-1)) ∧ w'.cell? ⟨N + 1, 0, none⟩ = some (Value.int .i64 lf)) (by kernel_rfl) (by kernel_rfl) (by rintro ⟨_, _, q⟩; exact q) (KS.out _ HD0.out) (fun hHeld => ?_)
        refine wpAnyH_take (i := 0) (oi := _) (v := Value.bool false) rfl (by kernel_rfl) (by kernel_rfl) (by kernel_rfl) (fun _ _ _ h => h) (Or.inl ⟨by rfl, fun w' hSw => ?_⟩) hHeld ?_
        · obtain ⟨t0, t1, t2, t3, t4, t5, t6, t7⟩ := hSw
          go_simp
          try simp [*]
          try (intro hh; exfalso; omega)
          try omega
          try exact fun _ => HS2.out
        try simp only [Act.put, List.setIfInBounds_toArray, List.set_cons_zero, List.set_cons_succ, List.getElem_toArray, List.getElem_cons_succ, List.getElem_cons_zero]
        refine wpAnyH_take (i := 1) (oi := _) (v := Value.bool false) rfl (by kernel_rfl) (by kernel_rfl) (by kernel_rfl) (fun _ _ _ h => h) (Or.inl ⟨by rfl, fun w' hSw => ?_⟩) hHeld ?_
        · obtain ⟨t0, t1, t2, t3, t4, t5, t6, t7⟩ := hSw
          go_simp
          try simp [*]
          try (intro hh; exfalso; omega)
          try omega
          try exact fun _ => HS2.out
        try simp only [Act.put, List.setIfInBounds_toArray, List.set_cons_zero, List.set_cons_succ, List.getElem_toArray, List.getElem_cons_succ, List.getElem_cons_zero]
        refine wpAnyH_take (i := 2) (oi := _) (v := Value.agg #[Value.int .i64 x.r.id, Value.int .i64 x.r.cls, Value.int .i64 x.r.made, Value.int .i64 x.r.size, Value.int .i64 x.r.packed, Value.bool x.small, Value.int .i64 (-1)]) rfl (by kernel_rfl) (by kernel_rfl) (by kernel_rfl) (fun _ _ _ h => h) (Or.inl ⟨by rfl, fun w' hSw => ?_⟩) hHeld ?_
        · obtain ⟨t0, t1, t2, t3, t4, t5, t6, t7⟩ := hSw
          go_simp
          try simp [*]
          try (intro hh; exfalso; omega)
          try omega
          try exact fun _ => HS2.out
        try simp only [Act.put, List.setIfInBounds_toArray, List.set_cons_zero, List.set_cons_succ, List.getElem_toArray, List.getElem_cons_succ, List.getElem_cons_zero]
        refine wpAnyH_take (i := 4) (oi := _) (v := Value.int .i64 lf) rfl (by kernel_rfl) (by kernel_rfl) (by kernel_rfl) (fun _ _ _ h => h) (Or.inl ⟨by rfl, fun w' hSw => ?_⟩) hHeld ?_
        · obtain ⟨t0, t1, t2, t3, t4, t5, t6, t7⟩ := hSw
          go_simp
          try simp [*]
          try (intro hh; exfalso; omega)
          try omega
          try exact fun _ => HS2.out
        try simp only [Act.put, List.setIfInBounds_toArray, List.set_cons_zero, List.set_cons_succ, List.getElem_toArray, List.getElem_cons_succ, List.getElem_cons_zero]
        refine wpAnyH_ready (rs := [3]) (by kernel_rfl) (by simp) ?_
        refine AllReadyH.cons (o := _) rfl (fun K hK => ?_) (AllReadyH.nil)
        go_simp
        go_at_call 87
        refine Calls.mono (cB _) ?_
        rintro e v1 ⟨rfl, hb⟩
        have HV1 := Lib.hid (show Below Z.heap.size Z v1 from (Below.refl Z.heap.size Z).drew.trans hb)
        clear hb
        clear hHeld
        refine hK.out _ _ (KS.out _ HV1.out) (fun hHeld => ?_)
        clear hK K
        try simp only [Act.put, List.setIfInBounds_toArray, List.set_cons_zero, List.set_cons_succ, List.getElem_toArray, List.getElem_cons_succ, List.getElem_cons_zero]
        refine wpAnyH_take (i := 5) (oi := _) (v := Value.bool false) rfl (by kernel_rfl) (by kernel_rfl) (by kernel_rfl) (fun _ _ _ h => h) (Or.inl ⟨by rfl, fun w' hSw => ?_⟩) hHeld ?_
        · obtain ⟨t0, t1, t2, t3, t4, t5, t6, t7⟩ := hSw
          go_simp
          try simp [*]
          try (intro hh; exfalso; omega)
          try omega
          try exact fun _ => HS2.out
        try simp only [Act.put, List.setIfInBounds_toArray, List.set_cons_zero, List.set_cons_succ, List.getElem_toArray, List.getElem_cons_succ, List.getElem_cons_zero]
        refine wpAnyH_take (i := 6) (oi := _) (v := Value.bool false) rfl (by kernel_rfl) (by kernel_rfl) (by kernel_rfl) (fun _ _ _ h => h) (Or.inl ⟨by rfl, fun w' hSw => ?_⟩) hHeld ?_
        · obtain ⟨t0, t1, t2, t3, t4, t5, t6, t7⟩ := hSw
          go_simp
          try simp [*]
          try (intro hh; exfalso; omega)
          try omega
          try exact fun _ => HS2.out
        try simp only [Act.put, List.setIfInBounds_toArray, List.set_cons_zero, List.set_cons_succ, List.getElem_toArray, List.getElem_cons_succ, List.getElem_cons_zero]
        refine wpAnyH_done (by kernel_rfl) ?_ _
        clear hHeld
        gi_wp2
        have KH := Lib.hid (show ∀ W1, Below Z.heap.size Z W1 → W1.cell? ⟨Bx, 0, none⟩ = some (Value.int .i64 x.r.id) ∧ W1.cell? ⟨Bx, 1, none⟩ = some (Value.int .i64 x.r.cls) ∧ W1.cell? ⟨Bx, 2, none⟩ = some (Value.int .i64 x.r.made) ∧ W1.cell? ⟨Bx, 3, none⟩ = some (Value.int .i64 x.r.size) ∧ W1.cell? ⟨Bx, 4, none⟩ = some (Value.int .i64 x.r.packed) ∧ W1.cell? ⟨Bx, 5, none⟩ = some (Value.bool x.small) ∧ W1.cell? ⟨Bx, 6, none⟩ = some (Value.int .i64 (-1)) from fun W1 h => by
          have q := KZ.out W1 h
          exact ⟨q.1, q.2.1, q.2.2.1, q.2.2.2.1, q.2.2.2.2.1, q.2.2.2.2.2.1, q.2.2.2.2.2.2.1⟩)
        have l1 := (HV1.out.cell (p := ⟨N + 1, 0, none⟩) hNZ).trans l0
        refine wpIn_round_held (S := fun w' => w'.cell? ⟨Bx, 0, none⟩ = some (Value.int .i64 x.r.id) ∧ w'.cell? ⟨Bx, 1, none⟩ = some (Value.int .i64 x.r.cls) ∧ w'.cell? ⟨Bx, 2, none⟩ = some (Value.int .i64 x.r.made) ∧ w'.cell? ⟨Bx, 3, none⟩ = some (Value.int .i64 x.r.size) ∧ w'.cell? ⟨Bx, 4, none⟩ = some (Value.int .i64 x.r.packed) ∧ w'.cell? ⟨Bx, 5, none⟩ = some (Value.bool x.small) ∧ w'.cell? ⟨Bx, 6, none⟩ = some (Value.int .i64 (-1))) (by kernel_rfl) (by kernel_rfl) (by rintro ⟨_, _, q⟩; exact q) (KH.out _ HV1.out.drew) (fun hHeld => ?_)
        refine wpAnyH_take (i := 1) (oi := _) (v := Value.agg #[Value.int .i64 x.r.id, Value.int .i64 x.r.cls, Value.int .i64 x.r.made, Value.int .i64 x.r.size, Value.int .i64 x.r.packed, Value.bool x.small, Value.int .i64 (-1)]) rfl (by kernel_rfl) (by kernel_rfl) (by kernel_rfl) (fun _ _ _ h => h) (Or.inl ⟨by rfl, fun w' hSw => ?_⟩) hHeld ?_
        · obtain ⟨t0, t1, t2, t3, t4, t5, t6⟩ := hSw
          go_simp
          try simp [*]
          try (intro hh; exfalso; omega)
          try omega
        try simp only [Act.put, List.setIfInBounds_toArray, List.set_cons_zero, List.set_cons_succ, List.getElem_toArray, List.getElem_cons_succ, List.getElem_cons_zero]
        refine wpAnyH_ready (rs := [0, 2]) (by kernel_rfl) (by simp) ?_
        refine AllReadyH.cons (o := _) rfl (fun K hK => ?_) (AllReadyH.cons (o := _) rfl (fun K hK => ?_) (AllReadyH.nil))
        · go_simp
          clear hHeld
          refine hK.out _ _ (KH.out _ HV1.out.drew) (fun hHeld => ?_)
          clear hK K
          try simp only [Act.put, List.setIfInBounds_toArray, List.set_cons_zero, List.set_cons_succ, List.getElem_toArray, List.getElem_cons_succ, List.getElem_cons_zero]
          refine wpAnyH_ready (rs := [2]) (by kernel_rfl) (by simp) ?_
          refine AllReadyH.cons (o := _) rfl (fun K hK => ?_) (AllReadyH.nil)
          go_simp
          go_at_call 87
          refine Calls.mono (cB _) ?_
          rintro e v2 ⟨rfl, hb⟩
          have HV2 := Lib.hid (show Below Z.heap.size Z v2 from (HV1.out.drew).trans (hb.mono HV1.out.size))
          have l2 := (HV2.out.cell (p := ⟨N + 1, 0, none⟩) hNZ).trans l0
          have lf2 := (HV2.out.frozen (p := ⟨N + 1, 0, none⟩) hNZ).trans lf0
          clear hb
          clear hHeld
          refine hK.out _ _ (KH.out _ HV2.out) (fun hHeld => ?_)
          clear hK K
          try simp only [Act.put, List.setIfInBounds_toArray, List.set_cons_zero, List.set_cons_succ, List.getElem_toArray, List.getElem_cons_succ, List.getElem_cons_zero]
          refine wpAnyH_take (i := 3) (oi := _) (v := Value.int .i64 (lf - byH x)) rfl (by kernel_rfl) (by kernel_rfl) (by kernel_rfl) (fun _ _ _ h => h) (Or.inl ⟨by rfl, fun w' hSw => ?_⟩) hHeld ?_
          · obtain ⟨t0, t1, t2, t3, t4, t5, t6⟩ := hSw
            go_simp
            try simp [*]
            try (intro hh; exfalso; omega)
            try omega
          try simp only [Act.put, List.setIfInBounds_toArray, List.set_cons_zero, List.set_cons_succ, List.getElem_toArray, List.getElem_cons_succ, List.getElem_cons_zero]
          obtain ⟨a0, a1, a2, a3, a4, a5, a6⟩ := KH.out _ HV2.out
          refine wpAnyH_ready (rs := [4]) (by kernel_rfl) (by simp) ?_
          refine AllReadyH.cons (o := _) rfl (fun K hK => ?_) (AllReadyH.nil)
          go_simp
          clear hHeld
          refine hK.out _ _ ⟨by simp [go_sem, *], by simp [go_sem, *], by simp [go_sem, *], by simp [go_sem, *], by simp [go_sem, *], by simp [go_sem, *], by simp [go_sem, *]⟩ (fun hHeld => ?_)
          clear hK K
          try simp only [Act.put, List.setIfInBounds_toArray, List.set_cons_zero, List.set_cons_succ, List.getElem_toArray, List.getElem_cons_succ, List.getElem_cons_zero]
          refine wpAnyH_done (by kernel_rfl) ?_ _
          clear hHeld
          obtain ⟨V, hV⟩ : ∃ V, V = v2.setCell ⟨N + 1, 0, none⟩ (.int .i64 (lf - byH x)) := ⟨_, rfl⟩
          have hfar : ∀ k, k < Z.heap.size → k ≠ N + 1 → V.heap[k]? = Z.heap[k]? := fun k hk hne => by rw [hV]; exact (Below.heap_setCell _ _ _ _ hne).trans (HV2.out.block k hk)
          have hVs : Z.heap.size ≤ V.heap.size := by rw [hV]; have := HV2.out.size; simpa using this
          have hVl : V.heap[N + 1]? = some (.cells #[.int .i64 (lf - byH x)] 2 (0, 0)) := by
            rw [hV]
            rw [heap_setCell_same _ _ _ _ _ _ ((HV2.out.block (N + 1) hNZ).trans HI.out.2.2.1)]
            rfl
          have hsb : SameBut N (N + 3) Z V := by rw [hV]; exact (SameBut.of HV2.out).trans (SameBut.set v2 0 _ ⟨by omega, by omega⟩)
          have hJ1 := HJK.out _ _ _ HI.out.1 hsb
          have y0 : V.cell? ⟨N, 0, none⟩ = some (.func (.yield (w.heap.size + 1)) #[] #[]) := (cellH ((hfar N (by have := HI.out.2.2.2.2.2.2.2.2; omega) (by omega)).trans HI.out.2.1) 0).trans (by simp)
          have bV : BxH V Bx x := (hfar Bx HX.out.lt (by have := HZ5.out; omega)).trans HX.out
          obtain ⟨q0, q1, q2, q3, q4, q5, q6⟩ : V.cell? ⟨Bx, 0, none⟩ = some (.int .i64 x.r.id) ∧ V.cell? ⟨Bx, 1, none⟩ = some (.int .i64 x.r.cls) ∧ V.cell? ⟨Bx, 2, none⟩ = some (.int .i64 x.r.made) ∧ V.cell? ⟨Bx, 3, none⟩ = some (.int .i64 x.r.size) ∧ V.cell? ⟨Bx, 4, none⟩ = some (.int .i64 x.r.packed) ∧ V.cell? ⟨Bx, 5, none⟩ = some (.bool x.small) ∧ V.cell? ⟨Bx, 6, none⟩ = some (.int .i64 (-1)) := ⟨(cellH bV 0).trans (by simp), (cellH bV 1).trans (by simp), (cellH bV 2).trans (by simp), (cellH bV 3).trans (by simp), (cellH bV 4).trans (by simp), (cellH bV 5).trans (by simp), (cellH bV 6).trans (by first | (simp; done) | simp [HS1.out])⟩
          obtain ⟨fn, tmps, assign, body, hyl, hR⟩ := HY.out (sndG (·.1) t wt r pre) (⟨x, hx⟩ : {x // x ∈ L}) V hJ1 (by have := HN.out; omega) (Nat.lt_of_le_of_lt (HSL.out pre) hpl)
          unfold vH at hyl
          dsimp only at hyl
          try rw [HS1.out] at hyl
          have HFAR := Lib.hid hfar
          have HVS := Lib.hid hVs
          have HVL := Lib.hid hVl
          clear hfar hVs hVl hsb hJ1 bV l0 lf0 l1 l2 lf2
          try rw [← hV]
          clear hV
          gi_wp2
          refine ⟨fun _ => by omega, ?_⟩
          refine (roundIn_wide hR).mono ?_
          rintro e Z3 ⟨rfl, hj3, hk3⟩
          rw [← HN.out] at hk3
          have HJ3 := Lib.hid hj3
          have HK3 := Lib.hid hk3
          clear hj3 hk3 y0 q0 q1 q2 q3 q4 q5 q6 hyl hR
          gi_wp2
          have hsz := HI.out.2.2.2.2.2.2.2.2
          have hQ : ∀ q, SnQ B3 B4 b N p q → q < Z.heap.size → q ≠ N + 1 → Z3.heap[q]? = Z.heap[q]? := fun q hq hz hne => (HK3.out.2 q hq).trans (HFAR.out q hz hne)
          obtain ⟨i1, i2, i3, i4, i5, i6, i7, i8, i9⟩ := HI.out
          obtain ⟨l3, l4, lb, lp⟩ := HLT.out
          refine ⟨⟨Nat.le_trans HVS.out HK3.out.1.size, fun k o hk ho hcs => HK3.out.1.same k o (by have := HZ5.out; omega) ((HFAR.out k (Array.getElem?_eq_some_iff.1 ho).1 (by have := HZ5.out; omega)).trans ho) hcs⟩, ⟨Nat.le_trans HVS.out HK3.out.1.size, fun q hq => ?_⟩, ?_⟩
          · rcases hq with rfl | rfl | hq
            · exact hQ _ (.inr (.inr (.inr (.inr ⟨by omega, by omega⟩)))) (by omega) (by omega)
            · exact hQ _ (.inr (.inr (.inl rfl))) (by omega) (by omega)
            · have := lp q hq
              exact hQ q (.inr (.inr (.inr (.inl hq)))) (by omega) (by omega)
          · unfold SnI
            rw [HNX.out.1, HNX.out.2]
            refine ⟨HJ3.out, (hQ N (.inr (.inr (.inr (.inr ⟨by omega, by omega⟩)))) (by omega) (by omega)).trans i2, (HK3.out.2 (N + 1) (.inr (.inr (.inr (.inr ⟨by omega, by omega⟩))))).trans HVL.out, (hQ (N + 2) (.inr (.inr (.inr (.inr ⟨by omega, by omega⟩)))) (by omega) (by omega)).trans i4, (hQ B3 (.inl rfl) (by omega) (by omega)).trans i5, (hQ B4 (.inr (.inl rfl)) (by omega) (by omega)).trans i6, (hQ b (.inr (.inr (.inl rfl))) (by omega) (by omega)).trans i7, fun q hq => (hQ q (.inr (.inr (.inr (.inl hq)))) (by have := lp q hq; omega) (by have := lp q hq; omega)).trans (i8 q hq), by have := HVS.out; have := HK3.out.1.size; omega⟩
        · go_simp
          go_at_call 87
          refine Calls.mono (cB _) ?_
          rintro e v2 ⟨rfl, hb⟩
          have HV2 := Lib.hid (show Below Z.heap.size Z v2 from (HV1.out.drew).trans (hb.mono HV1.out.size))
          have l2 := (HV2.out.cell (p := ⟨N + 1, 0, none⟩) hNZ).trans l0
          have lf2 := (HV2.out.frozen (p := ⟨N + 1, 0, none⟩) hNZ).trans lf0
          clear hb
          clear hHeld
          refine hK.out _ _ (KH.out _ HV2.out) (fun hHeld => ?_)
          clear hK K
          try simp only [Act.put, List.setIfInBounds_toArray, List.set_cons_zero, List.set_cons_succ, List.getElem_toArray, List.getElem_cons_succ, List.getElem_cons_zero]
          refine wpAnyH_ready (rs := [0]) (by kernel_rfl) (by simp) ?_
          refine AllReadyH.cons (o := _) rfl (fun K hK => ?_) (AllReadyH.nil)
          go_simp
          clear hHeld
          refine hK.out _ _ (KH.out _ HV2.out) (fun hHeld => ?_)
          clear hK K
          try simp only [Act.put, List.setIfInBounds_toArray, List.set_cons_zero, List.set_cons_succ, List.getElem_toArray, List.getElem_cons_succ, List.getElem_cons_zero]
          refine wpAnyH_take (i := 3) (oi := _) (v := Value.int .i64 (lf - byH x)) rfl (by kernel_rfl) (by kernel_rfl) (by kernel_rfl) (fun _ _ _ h => h) (Or.inl ⟨by rfl, fun w' hSw => ?_⟩) hHeld ?_
          · obtain ⟨t0, t1, t2, t3, t4, t5, t6⟩ := hSw
            go_simp
            try simp [*]
            try (intro hh; exfalso; omega)
            try omega
          try simp only [Act.put, List.setIfInBounds_toArray, List.set_cons_zero, List.set_cons_succ, List.getElem_toArray, List.getElem_cons_succ, List.getElem_cons_zero]
          obtain ⟨a0, a1, a2, a3, a4, a5, a6⟩ := KH.out _ HV2.out
          refine wpAnyH_ready (rs := [4]) (by kernel_rfl) (by simp) ?_
          refine AllReadyH.cons (o := _) rfl (fun K hK => ?_) (AllReadyH.nil)
          go_simp
          clear hHeld
          refine hK.out _ _ ⟨by simp [go_sem, *], by simp [go_sem, *], by simp [go_sem, *], by simp [go_sem, *], by simp [go_sem, *], by simp [go_sem, *], by simp [go_sem, *]⟩ (fun hHeld => ?_)
          clear hK K
          try simp only [Act.put, List.setIfInBounds_toArray, List.set_cons_zero, List.set_cons_succ, List.getElem_toArray, List.getElem_cons_succ, List.getElem_cons_zero]
          refine wpAnyH_done (by kernel_rfl) ?_ _
          clear hHeld
          obtain ⟨V, hV⟩ : ∃ V, V = v2.setCell ⟨N + 1, 0, none⟩ (.int .i64 (lf - byH x)) := ⟨_, rfl⟩
          have hfar : ∀ k, k < Z.heap.size → k ≠ N + 1 → V.heap[k]? = Z.heap[k]? := fun k hk hne => by rw [hV]; exact (Below.heap_setCell _ _ _ _ hne).trans (HV2.out.block k hk)
          have hVs : Z.heap.size ≤ V.heap.size := by rw [hV]; have := HV2.out.size; simpa using this
          have hVl : V.heap[N + 1]? = some (.cells #[.int .i64 (lf - byH x)] 2 (0, 0)) := by
            rw [hV]
            rw [heap_setCell_same _ _ _ _ _ _ ((HV2.out.block (N + 1) hNZ).trans HI.out.2.2.1)]
            rfl
          have hsb : SameBut N (N + 3) Z V := by rw [hV]; exact (SameBut.of HV2.out).trans (SameBut.set v2 0 _ ⟨by omega, by omega⟩)
          have hJ1 := HJK.out _ _ _ HI.out.1 hsb
          have y0 : V.cell? ⟨N, 0, none⟩ = some (.func (.yield (w.heap.size + 1)) #[] #[]) := (cellH ((hfar N (by have := HI.out.2.2.2.2.2.2.2.2; omega) (by omega)).trans HI.out.2.1) 0).trans (by simp)
          have bV : BxH V Bx x := (hfar Bx HX.out.lt (by have := HZ5.out; omega)).trans HX.out
          obtain ⟨q0, q1, q2, q3, q4, q5, q6⟩ : V.cell? ⟨Bx, 0, none⟩ = some (.int .i64 x.r.id) ∧ V.cell? ⟨Bx, 1, none⟩ = some (.int .i64 x.r.cls) ∧ V.cell? ⟨Bx, 2, none⟩ = some (.int .i64 x.r.made) ∧ V.cell? ⟨Bx, 3, none⟩ = some (.int .i64 x.r.size) ∧ V.cell? ⟨Bx, 4, none⟩ = some (.int .i64 x.r.packed) ∧ V.cell? ⟨Bx, 5, none⟩ = some (.bool x.small) ∧ V.cell? ⟨Bx, 6, none⟩ = some (.int .i64 (-1)) := ⟨(cellH bV 0).trans (by simp), (cellH bV 1).trans (by simp), (cellH bV 2).trans (by simp), (cellH bV 3).trans (by simp), (cellH bV 4).trans (by simp), (cellH bV 5).trans (by simp), (cellH bV 6).trans (by first | (simp; done) | simp [HS1.out])⟩
          obtain ⟨fn, tmps, assign, body, hyl, hR⟩ := HY.out (sndG (·.1) t wt r pre) (⟨x, hx⟩ : {x // x ∈ L}) V hJ1 (by have := HN.out; omega) (Nat.lt_of_le_of_lt (HSL.out pre) hpl)
          unfold vH at hyl
          dsimp only at hyl
          try rw [HS1.out] at hyl
          have HFAR := Lib.hid hfar
          have HVS := Lib.hid hVs
          have HVL := Lib.hid hVl
          clear hfar hVs hVl hsb hJ1 bV l0 lf0 l1 l2 lf2
          try rw [← hV]
          clear hV
          gi_wp2
          refine ⟨fun _ => by omega, ?_⟩
          refine (roundIn_wide hR).mono ?_
          rintro e Z3 ⟨rfl, hj3, hk3⟩
          rw [← HN.out] at hk3
          have HJ3 := Lib.hid hj3
          have HK3 := Lib.hid hk3
          clear hj3 hk3 y0 q0 q1 q2 q3 q4 q5 q6 hyl hR
          gi_wp2
          have hsz := HI.out.2.2.2.2.2.2.2.2
          have hQ : ∀ q, SnQ B3 B4 b N p q → q < Z.heap.size → q ≠ N + 1 → Z3.heap[q]? = Z.heap[q]? := fun q hq hz hne => (HK3.out.2 q hq).trans (HFAR.out q hz hne)
          obtain ⟨i1, i2, i3, i4, i5, i6, i7, i8, i9⟩ := HI.out
          obtain ⟨l3, l4, lb, lp⟩ := HLT.out
          refine ⟨⟨Nat.le_trans HVS.out HK3.out.1.size, fun k o hk ho hcs => HK3.out.1.same k o (by have := HZ5.out; omega) ((HFAR.out k (Array.getElem?_eq_some_iff.1 ho).1 (by have := HZ5.out; omega)).trans ho) hcs⟩, ⟨Nat.le_trans HVS.out HK3.out.1.size, fun q hq => ?_⟩, ?_⟩
          · rcases hq with rfl | rfl | hq
            · exact hQ _ (.inr (.inr (.inr (.inr ⟨by omega, by omega⟩)))) (by omega) (by omega)
            · exact hQ _ (.inr (.inr (.inl rfl))) (by omega) (by omega)
            · have := lp q hq
              exact hQ q (.inr (.inr (.inr (.inl hq)))) (by omega) (by omega)
          · unfold SnI
            rw [HNX.out.1, HNX.out.2]
            refine ⟨HJ3.out, (hQ N (.inr (.inr (.inr (.inr ⟨by omega, by omega⟩)))) (by omega) (by omega)).trans i2, (HK3.out.2 (N + 1) (.inr (.inr (.inr (.inr ⟨by omega, by omega⟩))))).trans HVL.out, (hQ (N + 2) (.inr (.inr (.inr (.inr ⟨by omega, by omega⟩)))) (by omega) (by omega)).trans i4, (hQ B3 (.inl rfl) (by omega) (by omega)).trans i5, (hQ B4 (.inr (.inl rfl)) (by omega) (by omega)).trans i6, (hQ b (.inr (.inr (.inl rfl))) (by omega) (by omega)).trans i7, fun q hq => (hQ q (.inr (.inr (.inr (.inl hq)))) (by have := lp q hq; omega) (by have := lp q hq; omega)).trans (i8 q hq), by have := HVS.out; have := HK3.out.1.size; omega⟩
      · have HNX := Lib.hid (HNO.out pre ⟨x, hx⟩ (fun h => hfit (by rw [HLFE.out]; exact h.2)))
        rw [← HLFE.out] at HNX
        have hfit2 : lf < byH x := by omega
        gi_wp2
        clear hs1b
        have KS := Lib.hid (show ∀ W1, Below Z.heap.size Z W1 → W1.cell? ⟨Bx, 0, none⟩ = some (Value.int .i64 x.r.id) ∧ W1.cell? ⟨Bx, 1, none⟩ = some (Value.int .i64 x.r.cls) ∧ W1.cell? ⟨Bx, 2, none⟩ = some (Value.int .i64 x.r.made) ∧ W1.cell? ⟨Bx, 3, none⟩ = some (Value.int .i64 x.r.size) ∧ W1.cell? ⟨Bx, 4, none⟩ = some (Value.int .i64 x.r.packed) ∧ W1.cell? ⟨Bx, 5, none⟩ = some (Value.bool x.small) ∧ W1.cell? ⟨Bx, 6, none⟩ = some (Value.int .i64 (-1)) ∧ W1.cell? ⟨N + 1, 0, none⟩ = some (Value.int .i64 lf) from fun W1 h => KZ.out W1 h)
        have HD0 := Lib.hid (show Below Z.heap.size Z Z.drew from (Below.refl _ _).drew)
        refine wpIn_round_held (S := fun w' => w'.cell? ⟨Bx, 0, none⟩ = some (Value.int .i64 x.r.id) ∧ w'.cell? ⟨Bx, 1, none⟩ = some (Value.int .i64 x.r.cls) ∧ w'.cell? ⟨Bx, 2, none⟩ = some (Value.int .i64 x.r.made) ∧ w'.cell? ⟨Bx, 3, none⟩ = some (Value.int .i64 x.r.size) ∧ w'.cell? ⟨Bx, 4, none⟩ = some (Value.int .i64 x.r.packed) ∧ w'.cell? ⟨Bx, 5, none⟩ = some (Value.bool x.small) ∧ w'.cell? ⟨Bx, 6, none⟩ = some (Value.int .i64 (-1)) ∧ w'.cell? ⟨N + 1, 0, none⟩ = some (Value.int .i64 lf)) (by kernel_rfl) (by kernel_rfl) (by rintro ⟨_, _, q⟩; exact q) (KS.out _ HD0.out) (fun hHeld => ?_)
        refine wpAnyH_take (i := 0) (oi := _) (v := Value.bool false) rfl (by kernel_rfl) (by kernel_rfl) (by kernel_rfl) (fun _ _ _ h => h) (Or.inl ⟨by rfl, fun w' hSw => ?_⟩) hHeld ?_
        · obtain ⟨t0, t1, t2, t3, t4, t5, t6, t7⟩ := hSw
          go_simp
          try simp [*]
          try (intro hh; exfalso; omega)
          try omega
          try exact fun _ => HS2.out
        try simp only [Act.put, List.setIfInBounds_toArray, List.set_cons_zero, List.set_cons_succ, List.getElem_toArray, List.getElem_cons_succ, List.getElem_cons_zero]
        refine wpAnyH_take (i := 1) (oi := _) (v := Value.bool false) rfl (by kernel_rfl) (by kernel_rfl) (by kernel_rfl) (fun _ _ _ h => h) (Or.inl ⟨by rfl, fun w' hSw => ?_⟩) hHeld ?_
        · obtain ⟨t0, t1, t2, t3, t4, t5, t6, t7⟩ := hSw
          go_simp
          try simp [*]
          try (intro hh; exfalso; omega)
          try omega
          try exact fun _ => HS2.out
        try simp only [Act.put, List.setIfInBounds_toArray, List.set_cons_zero, List.set_cons_succ, List.getElem_toArray, List.getElem_cons_succ, List.getElem_cons_zero]
        refine wpAnyH_take (i := 2) (oi := _) (v := Value.agg #[Value.int .i64 x.r.id, Value.int .i64 x.r.cls, Value.int .i64 x.r.made, Value.int .i64 x.r.size, Value.int .i64 x.r.packed, Value.bool x.small, Value.int .i64 (-1)]) rfl (by kernel_rfl) (by kernel_rfl) (by kernel_rfl) (fun _ _ _ h => h) (Or.inl ⟨by rfl, fun w' hSw => ?_⟩) hHeld ?_
        · obtain ⟨t0, t1, t2, t3, t4, t5, t6, t7⟩ := hSw
          go_simp
          try simp [*]
          try (intro hh; exfalso; omega)
          try omega
          try exact fun _ => HS2.out
        try simp only [Act.put, List.setIfInBounds_toArray, List.set_cons_zero, List.set_cons_succ, List.getElem_toArray, List.getElem_cons_succ, List.getElem_cons_zero]
        refine wpAnyH_take (i := 4) (oi := _) (v := Value.int .i64 lf) rfl (by kernel_rfl) (by kernel_rfl) (by kernel_rfl) (fun _ _ _ h => h) (Or.inl ⟨by rfl, fun w' hSw => ?_⟩) hHeld ?_
        · obtain ⟨t0, t1, t2, t3, t4, t5, t6, t7⟩ := hSw
          go_simp
          try simp [*]
          try (intro hh; exfalso; omega)
          try omega
          try exact fun _ => HS2.out
        try simp only [Act.put, List.setIfInBounds_toArray, List.set_cons_zero, List.set_cons_succ, List.getElem_toArray, List.getElem_cons_succ, List.getElem_cons_zero]
        refine wpAnyH_ready (rs := [3]) (by kernel_rfl) (by simp) ?_
        refine AllReadyH.cons (o := _) rfl (fun K hK => ?_) (AllReadyH.nil)
        go_simp
        go_at_call 87
        refine Calls.mono (cB _) ?_
        rintro e v1 ⟨rfl, hb⟩
        have HV1 := Lib.hid (show Below Z.heap.size Z v1 from (Below.refl Z.heap.size Z).drew.trans hb)
        clear hb
        clear hHeld
        refine hK.out _ _ (KS.out _ HV1.out) (fun hHeld => ?_)
        clear hK K
        try simp only [Act.put, List.setIfInBounds_toArray, List.set_cons_zero, List.set_cons_succ, List.getElem_toArray, List.getElem_cons_succ, List.getElem_cons_zero]
        refine wpAnyH_take (i := 5) (oi := _) (v := Value.bool true) rfl (by kernel_rfl) (by kernel_rfl) (by kernel_rfl) (fun _ _ _ h => h) (Or.inl ⟨by rfl, fun w' hSw => ?_⟩) hHeld ?_
        · obtain ⟨t0, t1, t2, t3, t4, t5, t6, t7⟩ := hSw
          go_simp
          try simp [*]
          try (intro hh; exfalso; omega)
          try omega
          try exact fun _ => HS2.out
        try simp only [Act.put, List.setIfInBounds_toArray, List.set_cons_zero, List.set_cons_succ, List.getElem_toArray, List.getElem_cons_succ, List.getElem_cons_zero]
        refine wpAnyH_take (i := 6) (oi := _) (v := Value.bool true) rfl (by kernel_rfl) (by kernel_rfl) (by kernel_rfl) (fun _ _ _ h => h) (Or.inl ⟨by rfl, fun w' hSw => ?_⟩) hHeld ?_
        · obtain ⟨t0, t1, t2, t3, t4, t5, t6, t7⟩ := hSw
          go_simp
          try simp [*]
          try (intro hh; exfalso; omega)
          try omega
          try exact fun _ => HS2.out
        try simp only [Act.put, List.setIfInBounds_toArray, List.set_cons_zero, List.set_cons_succ, List.getElem_toArray, List.getElem_cons_succ, List.getElem_cons_zero]
        refine wpAnyH_done (by kernel_rfl) ?_ _
        clear hHeld
        gi_wp2
        have hko : KeepsOthers Z _ := ⟨(HV1.out).size, fun k o hk ho => ((HV1.out).block k (Array.getElem?_eq_some_iff.1 hk).1).trans hk⟩
        refine ⟨hko.from _, ⟨hko.size, fun q hq => (HV1.out).block q (HQZ.out q hq)⟩, ?_⟩
        have q := HI.out.below HJK.out HLT.out (HV1.out)
        unfold SnI at q ⊢
        rw [← HLFE.out] at q
        rw [HNX.out.1, HNX.out.2]
        exact q
    · by_cases hs2 : x.sent ≤ t - wt
      · have HS := Lib.hid (show x.sent = -1 ∨ x.sent ≤ t - wt from .inr hs2)
        have HS2 := Lib.hid hs2
        by_cases hfit : byH x ≤ lf
        · have HNX := Lib.hid (HYES.out pre ⟨x, hx⟩ ⟨HS.out, by rw [HLFE.out] at hfit; exact hfit⟩)
          rw [← HLFE.out] at HNX
          gi_wp2
          clear hs1 hs2
          have KS := Lib.hid (show ∀ W1, Below Z.heap.size Z W1 → W1.cell? ⟨Bx, 0, none⟩ = some (Value.int .i64 x.r.id) ∧ W1.cell? ⟨Bx, 1, none⟩ = some (Value.int .i64 x.r.cls) ∧ W1.cell? ⟨Bx, 2, none⟩ = some (Value.int .i64 x.r.made) ∧ W1.cell? ⟨Bx, 3, none⟩ = some (Value.int .i64 x.r.size) ∧ W1.cell? ⟨Bx, 4, none⟩ = some (Value.int .i64 x.r.packed) ∧ W1.cell? ⟨Bx, 5, none⟩ = some (Value.bool x.small) ∧ W1.cell? ⟨Bx, 6, none⟩ = some (Value.int .i64 x.sent) ∧ W1.cell? ⟨N + 1, 0, none⟩ = some (Value.int .i64 lf) from fun W1 h => KZ.out W1 h)
          have HD0 := Lib.hid (show Below Z.heap.size Z Z.drew from (Below.refl _ _).drew)
          refine wpIn_round_held (S := fun w' => w'.cell? ⟨Bx, 0, none⟩ = some (Value.int .i64 x.r.id) ∧ w'.cell? ⟨Bx, 1, none⟩ = some (Value.int .i64 x.r.cls) ∧ w'.cell? ⟨Bx, 2, none⟩ = some (Value.int .i64 x.r.made) ∧ w'.cell? ⟨Bx, 3, none⟩ = some (Value.int .i64 x.r.size) ∧ w'.cell? ⟨Bx, 4, none⟩ = some (Value.int .i64 x.r.packed) ∧ w'.cell? ⟨Bx, 5, none⟩ = some (Value.bool x.small) ∧ w'.cell? ⟨Bx, 6, none⟩ = some (Value.int .i64 x.sent) ∧ w'.cell? ⟨N + 1, 0, none⟩ = some (Value.int .i64 lf)) (by kernel_rfl) (by kernel_rfl) (by rintro ⟨_, _, q⟩; exact q) (KS.out _ HD0.out) (fun hHeld => ?_)
          refine wpAnyH_take (i := 0) (oi := _) (v := Value.bool false) rfl (by kernel_rfl) (by kernel_rfl) (by kernel_rfl) (fun _ _ _ h => h) (Or.inl ⟨by rfl, fun w' hSw => ?_⟩) hHeld ?_
          · obtain ⟨t0, t1, t2, t3, t4, t5, t6, t7⟩ := hSw
            go_simp
            try simp [*]
            try (intro hh; exfalso; omega)
            try omega
            try exact fun _ => HS2.out
          try simp only [Act.put, List.setIfInBounds_toArray, List.set_cons_zero, List.set_cons_succ, List.getElem_toArray, List.getElem_cons_succ, List.getElem_cons_zero]
          refine wpAnyH_take (i := 1) (oi := _) (v := Value.bool false) rfl (by kernel_rfl) (by kernel_rfl) (by kernel_rfl) (fun _ _ _ h => h) (Or.inl ⟨by rfl, fun w' hSw => ?_⟩) hHeld ?_
          · obtain ⟨t0, t1, t2, t3, t4, t5, t6, t7⟩ := hSw
            go_simp
            try simp [*]
            try (intro hh; exfalso; omega)
            try omega
            try exact fun _ => HS2.out
          try simp only [Act.put, List.setIfInBounds_toArray, List.set_cons_zero, List.set_cons_succ, List.getElem_toArray, List.getElem_cons_succ, List.getElem_cons_zero]
          refine wpAnyH_take (i := 2) (oi := _) (v := Value.agg #[Value.int .i64 x.r.id, Value.int .i64 x.r.cls, Value.int .i64 x.r.made, Value.int .i64 x.r.size, Value.int .i64 x.r.packed, Value.bool x.small, Value.int .i64 x.sent]) rfl (by kernel_rfl) (by kernel_rfl) (by kernel_rfl) (fun _ _ _ h => h) (Or.inl ⟨by rfl, fun w' hSw => ?_⟩) hHeld ?_
          · obtain ⟨t0, t1, t2, t3, t4, t5, t6, t7⟩ := hSw
            go_simp
            try simp [*]
            try (intro hh; exfalso; omega)
            try omega
            try exact fun _ => HS2.out
          try simp only [Act.put, List.setIfInBounds_toArray, List.set_cons_zero, List.set_cons_succ, List.getElem_toArray, List.getElem_cons_succ, List.getElem_cons_zero]
          refine wpAnyH_take (i := 4) (oi := _) (v := Value.int .i64 lf) rfl (by kernel_rfl) (by kernel_rfl) (by kernel_rfl) (fun _ _ _ h => h) (Or.inl ⟨by rfl, fun w' hSw => ?_⟩) hHeld ?_
          · obtain ⟨t0, t1, t2, t3, t4, t5, t6, t7⟩ := hSw
            go_simp
            try simp [*]
            try (intro hh; exfalso; omega)
            try omega
            try exact fun _ => HS2.out
          try simp only [Act.put, List.setIfInBounds_toArray, List.set_cons_zero, List.set_cons_succ, List.getElem_toArray, List.getElem_cons_succ, List.getElem_cons_zero]
          refine wpAnyH_ready (rs := [3]) (by kernel_rfl) (by simp) ?_
          refine AllReadyH.cons (o := _) rfl (fun K hK => ?_) (AllReadyH.nil)
          go_simp
          go_at_call 87
          refine Calls.mono (cB _) ?_
          rintro e v1 ⟨rfl, hb⟩
          have HV1 := Lib.hid (show Below Z.heap.size Z v1 from (Below.refl Z.heap.size Z).drew.trans hb)
          clear hb
          clear hHeld
          refine hK.out _ _ (KS.out _ HV1.out) (fun hHeld => ?_)
          clear hK K
          try simp only [Act.put, List.setIfInBounds_toArray, List.set_cons_zero, List.set_cons_succ, List.getElem_toArray, List.getElem_cons_succ, List.getElem_cons_zero]
          refine wpAnyH_take (i := 5) (oi := _) (v := Value.bool false) rfl (by kernel_rfl) (by kernel_rfl) (by kernel_rfl) (fun _ _ _ h => h) (Or.inl ⟨by rfl, fun w' hSw => ?_⟩) hHeld ?_
          · obtain ⟨t0, t1, t2, t3, t4, t5, t6, t7⟩ := hSw
            go_simp
            try simp [*]
            try (intro hh; exfalso; omega)
            try omega
            try exact fun _ => HS2.out
          try simp only [Act.put, List.setIfInBounds_toArray, List.set_cons_zero, List.set_cons_succ, List.getElem_toArray, List.getElem_cons_succ, List.getElem_cons_zero]
          refine wpAnyH_take (i := 6) (oi := _) (v := Value.bool false) rfl (by kernel_rfl) (by kernel_rfl) (by kernel_rfl) (fun _ _ _ h => h) (Or.inl ⟨by rfl, fun w' hSw => ?_⟩) hHeld ?_
          · obtain ⟨t0, t1, t2, t3, t4, t5, t6, t7⟩ := hSw
            go_simp
            try simp [*]
            try (intro hh; exfalso; omega)
            try omega
            try exact fun _ => HS2.out
          try simp only [Act.put, List.setIfInBounds_toArray, List.set_cons_zero, List.set_cons_succ, List.getElem_toArray, List.getElem_cons_succ, List.getElem_cons_zero]
          refine wpAnyH_done (by kernel_rfl) ?_ _
          clear hHeld
          gi_wp2
          have KH := Lib.hid (show ∀ W1, Below Z.heap.size Z W1 → W1.cell? ⟨Bx, 0, none⟩ = some (Value.int .i64 x.r.id) ∧ W1.cell? ⟨Bx, 1, none⟩ = some (Value.int .i64 x.r.cls) ∧ W1.cell? ⟨Bx, 2, none⟩ = some (Value.int .i64 x.r.made) ∧ W1.cell? ⟨Bx, 3, none⟩ = some (Value.int .i64 x.r.size) ∧ W1.cell? ⟨Bx, 4, none⟩ = some (Value.int .i64 x.r.packed) ∧ W1.cell? ⟨Bx, 5, none⟩ = some (Value.bool x.small) ∧ W1.cell? ⟨Bx, 6, none⟩ = some (Value.int .i64 x.sent) from fun W1 h => by
            have q := KZ.out W1 h
            exact ⟨q.1, q.2.1, q.2.2.1, q.2.2.2.1, q.2.2.2.2.1, q.2.2.2.2.2.1, q.2.2.2.2.2.2.1⟩)
          have l1 := (HV1.out.cell (p := ⟨N + 1, 0, none⟩) hNZ).trans l0
          refine wpIn_round_held (S := fun w' => w'.cell? ⟨Bx, 0, none⟩ = some (Value.int .i64 x.r.id) ∧ w'.cell? ⟨Bx, 1, none⟩ = some (Value.int .i64 x.r.cls) ∧ w'.cell? ⟨Bx, 2, none⟩ = some (Value.int .i64 x.r.made) ∧ w'.cell? ⟨Bx, 3, none⟩ = some (Value.int .i64 x.r.size) ∧ w'.cell? ⟨Bx, 4, none⟩ = some (Value.int .i64 x.r.packed) ∧ w'.cell? ⟨Bx, 5, none⟩ = some (Value.bool x.small) ∧ w'.cell? ⟨Bx, 6, none⟩ = some (Value.int .i64 x.sent)) (by kernel_rfl) (by kernel_rfl) (by rintro ⟨_, _, q⟩; exact q) (KH.out _ HV1.out.drew) (fun hHeld => ?_)
          refine wpAnyH_take (i := 1) (oi := _) (v := Value.agg #[Value.int .i64 x.r.id, Value.int .i64 x.r.cls, Value.int .i64 x.r.made, Value.int .i64 x.r.size, Value.int .i64 x.r.packed, Value.bool x.small, Value.int .i64 x.sent]) rfl (by kernel_rfl) (by kernel_rfl) (by kernel_rfl) (fun _ _ _ h => h) (Or.inl ⟨by rfl, fun w' hSw => ?_⟩) hHeld ?_
          · obtain ⟨t0, t1, t2, t3, t4, t5, t6⟩ := hSw
            go_simp
            try simp [*]
            try (intro hh; exfalso; omega)
            try omega
          try simp only [Act.put, List.setIfInBounds_toArray, List.set_cons_zero, List.set_cons_succ, List.getElem_toArray, List.getElem_cons_succ, List.getElem_cons_zero]
          refine wpAnyH_ready (rs := [0, 2]) (by kernel_rfl) (by simp) ?_
          refine AllReadyH.cons (o := _) rfl (fun K hK => ?_) (AllReadyH.cons (o := _) rfl (fun K hK => ?_) (AllReadyH.nil))
          · go_simp
            clear hHeld
            refine hK.out _ _ (KH.out _ HV1.out.drew) (fun hHeld => ?_)
            clear hK K
            try simp only [Act.put, List.setIfInBounds_toArray, List.set_cons_zero, List.set_cons_succ, List.getElem_toArray, List.getElem_cons_succ, List.getElem_cons_zero]
            refine wpAnyH_ready (rs := [2]) (by kernel_rfl) (by simp) ?_
            refine AllReadyH.cons (o := _) rfl (fun K hK => ?_) (AllReadyH.nil)
            go_simp
            go_at_call 87
            refine Calls.mono (cB _) ?_
            rintro e v2 ⟨rfl, hb⟩
            have HV2 := Lib.hid (show Below Z.heap.size Z v2 from (HV1.out.drew).trans (hb.mono HV1.out.size))
            have l2 := (HV2.out.cell (p := ⟨N + 1, 0, none⟩) hNZ).trans l0
            have lf2 := (HV2.out.frozen (p := ⟨N + 1, 0, none⟩) hNZ).trans lf0
            clear hb
            clear hHeld
            refine hK.out _ _ (KH.out _ HV2.out) (fun hHeld => ?_)
            clear hK K
            try simp only [Act.put, List.setIfInBounds_toArray, List.set_cons_zero, List.set_cons_succ, List.getElem_toArray, List.getElem_cons_succ, List.getElem_cons_zero]
            refine wpAnyH_take (i := 3) (oi := _) (v := Value.int .i64 (lf - byH x)) rfl (by kernel_rfl) (by kernel_rfl) (by kernel_rfl) (fun _ _ _ h => h) (Or.inl ⟨by rfl, fun w' hSw => ?_⟩) hHeld ?_
            · obtain ⟨t0, t1, t2, t3, t4, t5, t6⟩ := hSw
              go_simp
              try simp [*]
              try (intro hh; exfalso; omega)
              try omega
            try simp only [Act.put, List.setIfInBounds_toArray, List.set_cons_zero, List.set_cons_succ, List.getElem_toArray, List.getElem_cons_succ, List.getElem_cons_zero]
            obtain ⟨a0, a1, a2, a3, a4, a5, a6⟩ := KH.out _ HV2.out
            refine wpAnyH_ready (rs := [4]) (by kernel_rfl) (by simp) ?_
            refine AllReadyH.cons (o := _) rfl (fun K hK => ?_) (AllReadyH.nil)
            go_simp
            clear hHeld
            refine hK.out _ _ ⟨by simp [go_sem, *], by simp [go_sem, *], by simp [go_sem, *], by simp [go_sem, *], by simp [go_sem, *], by simp [go_sem, *], by simp [go_sem, *]⟩ (fun hHeld => ?_)
            clear hK K
            try simp only [Act.put, List.setIfInBounds_toArray, List.set_cons_zero, List.set_cons_succ, List.getElem_toArray, List.getElem_cons_succ, List.getElem_cons_zero]
            refine wpAnyH_done (by kernel_rfl) ?_ _
            clear hHeld
            obtain ⟨V, hV⟩ : ∃ V, V = v2.setCell ⟨N + 1, 0, none⟩ (.int .i64 (lf - byH x)) := ⟨_, rfl⟩
            have hfar : ∀ k, k < Z.heap.size → k ≠ N + 1 → V.heap[k]? = Z.heap[k]? := fun k hk hne => by rw [hV]; exact (Below.heap_setCell _ _ _ _ hne).trans (HV2.out.block k hk)
            have hVs : Z.heap.size ≤ V.heap.size := by rw [hV]; have := HV2.out.size; simpa using this
            have hVl : V.heap[N + 1]? = some (.cells #[.int .i64 (lf - byH x)] 2 (0, 0)) := by
              rw [hV]
              rw [heap_setCell_same _ _ _ _ _ _ ((HV2.out.block (N + 1) hNZ).trans HI.out.2.2.1)]
              rfl
            have hsb : SameBut N (N + 3) Z V := by rw [hV]; exact (SameBut.of HV2.out).trans (SameBut.set v2 0 _ ⟨by omega, by omega⟩)
            have hJ1 := HJK.out _ _ _ HI.out.1 hsb
            have y0 : V.cell? ⟨N, 0, none⟩ = some (.func (.yield (w.heap.size + 1)) #[] #[]) := (cellH ((hfar N (by have := HI.out.2.2.2.2.2.2.2.2; omega) (by omega)).trans HI.out.2.1) 0).trans (by simp)
            have bV : BxH V Bx x := (hfar Bx HX.out.lt (by have := HZ5.out; omega)).trans HX.out
            obtain ⟨q0, q1, q2, q3, q4, q5, q6⟩ : V.cell? ⟨Bx, 0, none⟩ = some (.int .i64 x.r.id) ∧ V.cell? ⟨Bx, 1, none⟩ = some (.int .i64 x.r.cls) ∧ V.cell? ⟨Bx, 2, none⟩ = some (.int .i64 x.r.made) ∧ V.cell? ⟨Bx, 3, none⟩ = some (.int .i64 x.r.size) ∧ V.cell? ⟨Bx, 4, none⟩ = some (.int .i64 x.r.packed) ∧ V.cell? ⟨Bx, 5, none⟩ = some (.bool x.small) ∧ V.cell? ⟨Bx, 6, none⟩ = some (.int .i64 x.sent) := ⟨(cellH bV 0).trans (by simp), (cellH bV 1).trans (by simp), (cellH bV 2).trans (by simp), (cellH bV 3).trans (by simp), (cellH bV 4).trans (by simp), (cellH bV 5).trans (by simp), (cellH bV 6).trans (by first | (simp; done) | simp [HS1.out])⟩
            obtain ⟨fn, tmps, assign, body, hyl, hR⟩ := HY.out (sndG (·.1) t wt r pre) (⟨x, hx⟩ : {x // x ∈ L}) V hJ1 (by have := HN.out; omega) (Nat.lt_of_le_of_lt (HSL.out pre) hpl)
            unfold vH at hyl
            dsimp only at hyl
            try rw [HS1.out] at hyl
            have HFAR := Lib.hid hfar
            have HVS := Lib.hid hVs
            have HVL := Lib.hid hVl
            clear hfar hVs hVl hsb hJ1 bV l0 lf0 l1 l2 lf2
            try rw [← hV]
            clear hV
            gi_wp2
            refine ⟨fun _ => by omega, ?_⟩
            refine (roundIn_wide hR).mono ?_
            rintro e Z3 ⟨rfl, hj3, hk3⟩
            rw [← HN.out] at hk3
            have HJ3 := Lib.hid hj3
            have HK3 := Lib.hid hk3
            clear hj3 hk3 y0 q0 q1 q2 q3 q4 q5 q6 hyl hR
            gi_wp2
            have hsz := HI.out.2.2.2.2.2.2.2.2
            have hQ : ∀ q, SnQ B3 B4 b N p q → q < Z.heap.size → q ≠ N + 1 → Z3.heap[q]? = Z.heap[q]? := fun q hq hz hne => (HK3.out.2 q hq).trans (HFAR.out q hz hne)
            obtain ⟨i1, i2, i3, i4, i5, i6, i7, i8, i9⟩ := HI.out
            obtain ⟨l3, l4, lb, lp⟩ := HLT.out
            refine ⟨⟨Nat.le_trans HVS.out HK3.out.1.size, fun k o hk ho hcs => HK3.out.1.same k o (by have := HZ5.out; omega) ((HFAR.out k (Array.getElem?_eq_some_iff.1 ho).1 (by have := HZ5.out; omega)).trans ho) hcs⟩, ⟨Nat.le_trans HVS.out HK3.out.1.size, fun q hq => ?_⟩, ?_⟩
            · rcases hq with rfl | rfl | hq
              · exact hQ _ (.inr (.inr (.inr (.inr ⟨by omega, by omega⟩)))) (by omega) (by omega)
              · exact hQ _ (.inr (.inr (.inl rfl))) (by omega) (by omega)
              · have := lp q hq
                exact hQ q (.inr (.inr (.inr (.inl hq)))) (by omega) (by omega)
            · unfold SnI
              rw [HNX.out.1, HNX.out.2]
              refine ⟨HJ3.out, (hQ N (.inr (.inr (.inr (.inr ⟨by omega, by omega⟩)))) (by omega) (by omega)).trans i2, (HK3.out.2 (N + 1) (.inr (.inr (.inr (.inr ⟨by omega, by omega⟩))))).trans HVL.out, (hQ (N + 2) (.inr (.inr (.inr (.inr ⟨by omega, by omega⟩)))) (by omega) (by omega)).trans i4, (hQ B3 (.inl rfl) (by omega) (by omega)).trans i5, (hQ B4 (.inr (.inl rfl)) (by omega) (by omega)).trans i6, (hQ b (.inr (.inr (.inl rfl))) (by omega) (by omega)).trans i7, fun q hq => (hQ q (.inr (.inr (.inr (.inl hq)))) (by have := lp q hq; omega) (by have := lp q hq; omega)).trans (i8 q hq), by have := HVS.out; have := HK3.out.1.size; omega⟩
          · go_simp
            go_at_call 87
            refine Calls.mono (cB _) ?_
            rintro e v2 ⟨rfl, hb⟩
            have HV2 := Lib.hid (show Below Z.heap.size Z v2 from (HV1.out.drew).trans (hb.mono HV1.out.size))
            have l2 := (HV2.out.cell (p := ⟨N + 1, 0, none⟩) hNZ).trans l0
            have lf2 := (HV2.out.frozen (p := ⟨N + 1, 0, none⟩) hNZ).trans lf0
            clear hb
            clear hHeld
            refine hK.out _ _ (KH.out _ HV2.out) (fun hHeld => ?_)
            clear hK K
            try simp only [Act.put, List.setIfInBounds_toArray, List.set_cons_zero, List.set_cons_succ, List.getElem_toArray, List.getElem_cons_succ, List.getElem_cons_zero]
            refine wpAnyH_ready (rs := [0]) (by kernel_rfl) (by simp) ?_
            refine AllReadyH.cons (o := _) rfl (fun K hK => ?_) (AllReadyH.nil)
            go_simp
            clear hHeld
            refine hK.out _ _ (KH.out _ HV2.out) (fun hHeld => ?_)
            clear hK K
            try simp only [Act.put, List.setIfInBounds_toArray, List.set_cons_zero, List.set_cons_succ, List.getElem_toArray, List.getElem_cons_succ, List.getElem_cons_zero]
            refine wpAnyH_take (i := 3) (oi := _) (v := Value.int .i64 (lf - byH x)) rfl (by kernel_rfl) (by kernel_rfl) (by kernel_rfl) (fun _ _ _ h => h) (Or.inl ⟨by rfl, fun w' hSw => ?_⟩) hHeld ?_
            · obtain ⟨t0, t1, t2, t3, t4, t5, t6⟩ := hSw
              go_simp
              try simp [*]
              try (intro hh; exfalso; omega)
              try omega
            try simp only [Act.put, List.setIfInBounds_toArray, List.set_cons_zero, List.set_cons_succ, List.getElem_toArray, List.getElem_cons_succ, List.getElem_cons_zero]
            obtain ⟨a0, a1, a2, a3, a4, a5, a6⟩ := KH.out _ HV2.out
            refine wpAnyH_ready (rs := [4]) (by kernel_rfl) (by simp) ?_
            refine AllReadyH.cons (o := _) rfl (fun K hK => ?_) (AllReadyH.nil)
            go_simp
            clear hHeld
            refine hK.out _ _ ⟨by simp [go_sem, *], by simp [go_sem, *], by simp [go_sem, *], by simp [go_sem, *], by simp [go_sem, *], by simp [go_sem, *], by simp [go_sem, *]⟩ (fun hHeld => ?_)
            clear hK K
            try simp only [Act.put, List.setIfInBounds_toArray, List.set_cons_zero, List.set_cons_succ, List.getElem_toArray, List.getElem_cons_succ, List.getElem_cons_zero]
            refine wpAnyH_done (by kernel_rfl) ?_ _
            clear hHeld
            obtain ⟨V, hV⟩ : ∃ V, V = v2.setCell ⟨N + 1, 0, none⟩ (.int .i64 (lf - byH x)) := ⟨_, rfl⟩
            have hfar : ∀ k, k < Z.heap.size → k ≠ N + 1 → V.heap[k]? = Z.heap[k]? := fun k hk hne => by rw [hV]; exact (Below.heap_setCell _ _ _ _ hne).trans (HV2.out.block k hk)
            have hVs : Z.heap.size ≤ V.heap.size := by rw [hV]; have := HV2.out.size; simpa using this
            have hVl : V.heap[N + 1]? = some (.cells #[.int .i64 (lf - byH x)] 2 (0, 0)) := by
              rw [hV]
              rw [heap_setCell_same _ _ _ _ _ _ ((HV2.out.block (N + 1) hNZ).trans HI.out.2.2.1)]
              rfl
            have hsb : SameBut N (N + 3) Z V := by rw [hV]; exact (SameBut.of HV2.out).trans (SameBut.set v2 0 _ ⟨by omega, by omega⟩)
            have hJ1 := HJK.out _ _ _ HI.out.1 hsb
            have y0 : V.cell? ⟨N, 0, none⟩ = some (.func (.yield (w.heap.size + 1)) #[] #[]) := (cellH ((hfar N (by have := HI.out.2.2.2.2.2.2.2.2; omega) (by omega)).trans HI.out.2.1) 0).trans (by simp)
            have bV : BxH V Bx x := (hfar Bx HX.out.lt (by have := HZ5.out; omega)).trans HX.out
            obtain ⟨q0, q1, q2, q3, q4, q5, q6⟩ : V.cell? ⟨Bx, 0, none⟩ = some (.int .i64 x.r.id) ∧ V.cell? ⟨Bx, 1, none⟩ = some (.int .i64 x.r.cls) ∧ V.cell? ⟨Bx, 2, none⟩ = some (.int .i64 x.r.made) ∧ V.cell? ⟨Bx, 3, none⟩ = some (.int .i64 x.r.size) ∧ V.cell? ⟨Bx, 4, none⟩ = some (.int .i64 x.r.packed) ∧ V.cell? ⟨Bx, 5, none⟩ = some (.bool x.small) ∧ V.cell? ⟨Bx, 6, none⟩ = some (.int .i64 x.sent) := ⟨(cellH bV 0).trans (by simp), (cellH bV 1).trans (by simp), (cellH bV 2).trans (by simp), (cellH bV 3).trans (by simp), (cellH bV 4).trans (by simp), (cellH bV 5).trans (by simp), (cellH bV 6).trans (by first | (simp; done) | simp [HS1.out])⟩
            obtain ⟨fn, tmps, assign, body, hyl, hR⟩ := HY.out (sndG (·.1) t wt r pre) (⟨x, hx⟩ : {x // x ∈ L}) V hJ1 (by have := HN.out; omega) (Nat.lt_of_le_of_lt (HSL.out pre) hpl)
            unfold vH at hyl
            dsimp only at hyl
            try rw [HS1.out] at hyl
            have HFAR := Lib.hid hfar
            have HVS := Lib.hid hVs
            have HVL := Lib.hid hVl
            clear hfar hVs hVl hsb hJ1 bV l0 lf0 l1 l2 lf2
            try rw [← hV]
            clear hV
            gi_wp2
            refine ⟨fun _ => by omega, ?_⟩
            refine (roundIn_wide hR).mono ?_
            rintro e Z3 ⟨rfl, hj3, hk3⟩
            rw [← HN.out] at hk3
            have HJ3 := Lib.hid hj3
            have HK3 := Lib.hid hk3
            clear hj3 hk3 y0 q0 q1 q2 q3 q4 q5 q6 hyl hR
            gi_wp2
            have hsz := HI.out.2.2.2.2.2.2.2.2
            have hQ : ∀ q, SnQ B3 B4 b N p q → q < Z.heap.size → q ≠ N + 1 → Z3.heap[q]? = Z.heap[q]? := fun q hq hz hne => (HK3.out.2 q hq).trans (HFAR.out q hz hne)
            obtain ⟨i1, i2, i3, i4, i5, i6, i7, i8, i9⟩ := HI.out
            obtain ⟨l3, l4, lb, lp⟩ := HLT.out
            refine ⟨⟨Nat.le_trans HVS.out HK3.out.1.size, fun k o hk ho hcs => HK3.out.1.same k o (by have := HZ5.out; omega) ((HFAR.out k (Array.getElem?_eq_some_iff.1 ho).1 (by have := HZ5.out; omega)).trans ho) hcs⟩, ⟨Nat.le_trans HVS.out HK3.out.1.size, fun q hq => ?_⟩, ?_⟩
            · rcases hq with rfl | rfl | hq
              · exact hQ _ (.inr (.inr (.inr (.inr ⟨by omega, by omega⟩)))) (by omega) (by omega)
              · exact hQ _ (.inr (.inr (.inl rfl))) (by omega) (by omega)
              · have := lp q hq
                exact hQ q (.inr (.inr (.inr (.inl hq)))) (by omega) (by omega)
            · unfold SnI
              rw [HNX.out.1, HNX.out.2]
              refine ⟨HJ3.out, (hQ N (.inr (.inr (.inr (.inr ⟨by omega, by omega⟩)))) (by omega) (by omega)).trans i2, (HK3.out.2 (N + 1) (.inr (.inr (.inr (.inr ⟨by omega, by omega⟩))))).trans HVL.out, (hQ (N + 2) (.inr (.inr (.inr (.inr ⟨by omega, by omega⟩)))) (by omega) (by omega)).trans i4, (hQ B3 (.inl rfl) (by omega) (by omega)).trans i5, (hQ B4 (.inr (.inl rfl)) (by omega) (by omega)).trans i6, (hQ b (.inr (.inr (.inl rfl))) (by omega) (by omega)).trans i7, fun q hq => (hQ q (.inr (.inr (.inr (.inl hq)))) (by have := lp q hq; omega) (by have := lp q hq; omega)).trans (i8 q hq), by have := HVS.out; have := HK3.out.1.size; omega⟩
        · have HNX := Lib.hid (HNO.out pre ⟨x, hx⟩ (fun h => hfit (by rw [HLFE.out]; exact h.2)))
          rw [← HLFE.out] at HNX
          have hfit2 : lf < byH x := by omega
          gi_wp2
          clear hs1 hs2
          have KS := Lib.hid (show ∀ W1, Below Z.heap.size Z W1 → W1.cell? ⟨Bx, 0, none⟩ = some (Value.int .i64 x.r.id) ∧ W1.cell? ⟨Bx, 1, none⟩ = some (Value.int .i64 x.r.cls) ∧ W1.cell? ⟨Bx, 2, none⟩ = some (Value.int .i64 x.r.made) ∧ W1.cell? ⟨Bx, 3, none⟩ = some (Value.int .i64 x.r.size) ∧ W1.cell? ⟨Bx, 4, none⟩ = some (Value.int .i64 x.r.packed) ∧ W1.cell? ⟨Bx, 5, none⟩ = some (Value.bool x.small) ∧ W1.cell? ⟨Bx, 6, none⟩ = some (Value.int .i64 x.sent) ∧ W1.cell? ⟨N + 1, 0, none⟩ = some (Value.int .i64 lf) from fun W1 h => KZ.out W1 h)
          have HD0 := Lib.hid (show Below Z.heap.size Z Z.drew from (Below.refl _ _).drew)
          refine wpIn_round_held (S := fun w' => w'.cell? ⟨Bx, 0, none⟩ = some (Value.int .i64 x.r.id) ∧ w'.cell? ⟨Bx, 1, none⟩ = some (Value.int .i64 x.r.cls) ∧ w'.cell? ⟨Bx, 2, none⟩ = some (Value.int .i64 x.r.made) ∧ w'.cell? ⟨Bx, 3, none⟩ = some (Value.int .i64 x.r.size) ∧ w'.cell? ⟨Bx, 4, none⟩ = some (Value.int .i64 x.r.packed) ∧ w'.cell? ⟨Bx, 5, none⟩ = some (Value.bool x.small) ∧ w'.cell? ⟨Bx, 6, none⟩ = some (Value.int .i64 x.sent) ∧ w'.cell? ⟨N + 1, 0, none⟩ = some (Value.int .i64 lf)) (by kernel_rfl) (by kernel_rfl) (by rintro ⟨_, _, q⟩; exact q) (KS.out _ HD0.out) (fun hHeld => ?_)
          refine wpAnyH_take (i := 0) (oi := _) (v := Value.bool false) rfl (by kernel_rfl) (by kernel_rfl) (by kernel_rfl) (fun _ _ _ h => h) (Or.inl ⟨by rfl, fun w' hSw => ?_⟩) hHeld ?_
          · obtain ⟨t0, t1, t2, t3, t4, t5, t6, t7⟩ := hSw
            go_simp
            try simp [*]
            try (intro hh; exfalso; omega)
            try omega
            try exact fun _ => HS2.out
          try simp only [Act.put, List.setIfInBounds_toArray, List.set_cons_zero, List.set_cons_succ, List.getElem_toArray, List.getElem_cons_succ, List.getElem_cons_zero]
          refine wpAnyH_take (i := 1) (oi := _) (v := Value.bool false) rfl (by kernel_rfl) (by kernel_rfl) (by kernel_rfl) (fun _ _ _ h => h) (Or.inl ⟨by rfl, fun w' hSw => ?_⟩) hHeld ?_
          · obtain ⟨t0, t1, t2, t3, t4, t5, t6, t7⟩ := hSw
            go_simp
            try simp [*]
            try (intro hh; exfalso; omega)
            try omega
            try exact fun _ => HS2.out
          try simp only [Act.put, List.setIfInBounds_toArray, List.set_cons_zero, List.set_cons_succ, List.getElem_toArray, List.getElem_cons_succ, List.getElem_cons_zero]
          refine wpAnyH_take (i := 2) (oi := _) (v := Value.agg #[Value.int .i64 x.r.id, Value.int .i64 x.r.cls, Value.int .i64 x.r.made, Value.int .i64 x.r.size, Value.int .i64 x.r.packed, Value.bool x.small, Value.int .i64 x.sent]) rfl (by kernel_rfl) (by kernel_rfl) (by kernel_rfl) (fun _ _ _ h => h) (Or.inl ⟨by rfl, fun w' hSw => ?_⟩) hHeld ?_
          · obtain ⟨t0, t1, t2, t3, t4, t5, t6, t7⟩ := hSw
            go_simp
            try simp [*]
            try (intro hh; exfalso; omega)
            try omega
            try exact fun _ => HS2.out
          try simp only [Act.put, List.setIfInBounds_toArray, List.set_cons_zero, List.set_cons_succ, List.getElem_toArray, List.getElem_cons_succ, List.getElem_cons_zero]
          refine wpAnyH_take (i := 4) (oi := _) (v := Value.int .i64 lf) rfl (by kernel_rfl) (by kernel_rfl) (by kernel_rfl) (fun _ _ _ h => h) (Or.inl ⟨by rfl, fun w' hSw => ?_⟩) hHeld ?_
          · obtain ⟨t0, t1, t2, t3, t4, t5, t6, t7⟩ := hSw
            go_simp
            try simp [*]
            try (intro hh; exfalso; omega)
            try omega
            try exact fun _ => HS2.out
          try simp only [Act.put, List.setIfInBounds_toArray, List.set_cons_zero, List.set_cons_succ, List.getElem_toArray, List.getElem_cons_succ, List.getElem_cons_zero]
          refine wpAnyH_ready (rs := [3]) (by kernel_rfl) (by simp) ?_
          refine AllReadyH.cons (o := _) rfl (fun K hK => ?_) (AllReadyH.nil)
          go_simp
          go_at_call 87
          refine Calls.mono (cB _) ?_
          rintro e v1 ⟨rfl, hb⟩
          have HV1 := Lib.hid (show Below Z.heap.size Z v1 from (Below.refl Z.heap.size Z).drew.trans hb)
          clear hb
          clear hHeld
          refine hK.out _ _ (KS.out _ HV1.out) (fun hHeld => ?_)
          clear hK K
          try simp only [Act.put, List.setIfInBounds_toArray, List.set_cons_zero, List.set_cons_succ, List.getElem_toArray, List.getElem_cons_succ, List.getElem_cons_zero]
          refine wpAnyH_take (i := 5) (oi := _) (v := Value.bool true) rfl (by kernel_rfl) (by kernel_rfl) (by kernel_rfl) (fun _ _ _ h => h) (Or.inl ⟨by rfl, fun w' hSw => ?_⟩) hHeld ?_
          · obtain ⟨t0, t1, t2, t3, t4, t5, t6, t7⟩ := hSw
            go_simp
            try simp [*]
            try (intro hh; exfalso; omega)
            try omega
            try exact fun _ => HS2.out
          try simp only [Act.put, List.setIfInBounds_toArray, List.set_cons_zero, List.set_cons_succ, List.getElem_toArray, List.getElem_cons_succ, List.getElem_cons_zero]
          refine wpAnyH_take (i := 6) (oi := _) (v := Value.bool true) rfl (by kernel_rfl) (by kernel_rfl) (by kernel_rfl) (fun _ _ _ h => h) (Or.inl ⟨by rfl, fun w' hSw => ?_⟩) hHeld ?_
          · obtain ⟨t0, t1, t2, t3, t4, t5, t6, t7⟩ := hSw
            go_simp
            try simp [*]
            try (intro hh; exfalso; omega)
            try omega
            try exact fun _ => HS2.out
          try simp only [Act.put, List.setIfInBounds_toArray, List.set_cons_zero, List.set_cons_succ, List.getElem_toArray, List.getElem_cons_succ, List.getElem_cons_zero]
          refine wpAnyH_done (by kernel_rfl) ?_ _
          clear hHeld
          gi_wp2
          have hko : KeepsOthers Z _ := ⟨(HV1.out).size, fun k o hk ho => ((HV1.out).block k (Array.getElem?_eq_some_iff.1 hk).1).trans hk⟩
          refine ⟨hko.from _, ⟨hko.size, fun q hq => (HV1.out).block q (HQZ.out q hq)⟩, ?_⟩
          have q := HI.out.below HJK.out HLT.out (HV1.out)
          unfold SnI at q ⊢
          rw [← HLFE.out] at q
          rw [HNX.out.1, HNX.out.2]
          exact q
      · have HNX := Lib.hid (HNO.out pre ⟨x, hx⟩ (fun h => by rcases h.1 with e | e; exact hs1 e; exact hs2 e))
        rw [← HLFE.out] at HNX
        have hs3 : t - wt < x.sent := by omega
        have HS1N := Lib.hid hs1
        have HS3 := Lib.hid hs3
        gi_wp2
        clear hs1 hs2 hs3
        have KS := Lib.hid (show ∀ W1, Below Z.heap.size Z W1 → W1.cell? ⟨Bx, 0, none⟩ = some (Value.int .i64 x.r.id) ∧ W1.cell? ⟨Bx, 1, none⟩ = some (Value.int .i64 x.r.cls) ∧ W1.cell? ⟨Bx, 2, none⟩ = some (Value.int .i64 x.r.made) ∧ W1.cell? ⟨Bx, 3, none⟩ = some (Value.int .i64 x.r.size) ∧ W1.cell? ⟨Bx, 4, none⟩ = some (Value.int .i64 x.r.packed) ∧ W1.cell? ⟨Bx, 5, none⟩ = some (Value.bool x.small) ∧ W1.cell? ⟨Bx, 6, none⟩ = some (Value.int .i64 x.sent) ∧ W1.cell? ⟨N + 1, 0, none⟩ = some (Value.int .i64 lf) from fun W1 h => KZ.out W1 h)
        have HD0 := Lib.hid (show Below Z.heap.size Z Z.drew from (Below.refl _ _).drew)
        refine wpIn_round_held (S := fun w' => w'.cell? ⟨Bx, 0, none⟩ = some (Value.int .i64 x.r.id) ∧ w'.cell? ⟨Bx, 1, none⟩ = some (Value.int .i64 x.r.cls) ∧ w'.cell? ⟨Bx, 2, none⟩ = some (Value.int .i64 x.r.made) ∧ w'.cell? ⟨Bx, 3, none⟩ = some (Value.int .i64 x.r.size) ∧ w'.cell? ⟨Bx, 4, none⟩ = some (Value.int .i64 x.r.packed) ∧ w'.cell? ⟨Bx, 5, none⟩ = some (Value.bool x.small) ∧ w'.cell? ⟨Bx, 6, none⟩ = some (Value.int .i64 x.sent) ∧ w'.cell? ⟨N + 1, 0, none⟩ = some (Value.int .i64 lf)) (by kernel_rfl) (by kernel_rfl) (by rintro ⟨_, _, q⟩; exact q) (KS.out _ HD0.out) (fun hHeld => ?_)
        refine wpAnyH_take (i := 0) (oi := _) (v := Value.bool true) rfl (by kernel_rfl) (by kernel_rfl) (by kernel_rfl) (fun _ _ _ h => h) (Or.inl ⟨by rfl, fun w' hSw => ?_⟩) hHeld ?_
        · obtain ⟨t0, t1, t2, t3, t4, t5, t6, t7⟩ := hSw
          go_simp
          try simp [*]
          try (intro hh; exfalso; omega)
          try omega
          try exact HS1N.out
          try exact ⟨HS1N.out, HS3.out⟩
        try simp only [Act.put, List.setIfInBounds_toArray, List.set_cons_zero, List.set_cons_succ, List.getElem_toArray, List.getElem_cons_succ, List.getElem_cons_zero]
        refine wpAnyH_take (i := 1) (oi := _) (v := Value.bool true) rfl (by kernel_rfl) (by kernel_rfl) (by kernel_rfl) (fun _ _ _ h => h) (Or.inl ⟨by rfl, fun w' hSw => ?_⟩) hHeld ?_
        · obtain ⟨t0, t1, t2, t3, t4, t5, t6, t7⟩ := hSw
          go_simp
          try simp [*]
          try (intro hh; exfalso; omega)
          try omega
          try exact HS1N.out
          try exact ⟨HS1N.out, HS3.out⟩
        try simp only [Act.put, List.setIfInBounds_toArray, List.set_cons_zero, List.set_cons_succ, List.getElem_toArray, List.getElem_cons_succ, List.getElem_cons_zero]
        refine wpAnyH_take (i := 2) (oi := _) (v := undef) rfl (by kernel_rfl) (by kernel_rfl) (by kernel_rfl) (fun _ _ _ h => h) (Or.inr ⟨by rfl, rfl⟩) hHeld ?_
        try simp only [Act.put, List.setIfInBounds_toArray, List.set_cons_zero, List.set_cons_succ, List.getElem_toArray, List.getElem_cons_succ, List.getElem_cons_zero]
        refine wpAnyH_take (i := 3) (oi := _) (v := undef) rfl (by kernel_rfl) (by kernel_rfl) (by kernel_rfl) (fun _ _ _ h => h) (Or.inr ⟨by rfl, rfl⟩) hHeld ?_
        try simp only [Act.put, List.setIfInBounds_toArray, List.set_cons_zero, List.set_cons_succ, List.getElem_toArray, List.getElem_cons_succ, List.getElem_cons_zero]
        refine wpAnyH_take (i := 4) (oi := _) (v := undef) rfl (by kernel_rfl) (by kernel_rfl) (by kernel_rfl) (fun _ _ _ h => h) (Or.inr ⟨by rfl, rfl⟩) hHeld ?_
        try simp only [Act.put, List.setIfInBounds_toArray, List.set_cons_zero, List.set_cons_succ, List.getElem_toArray, List.getElem_cons_succ, List.getElem_cons_zero]
        refine wpAnyH_take (i := 5) (oi := _) (v := undef) rfl (by kernel_rfl) (by kernel_rfl) (by kernel_rfl) (fun _ _ _ h => h) (Or.inr ⟨by rfl, rfl⟩) hHeld ?_
        try simp only [Act.put, List.setIfInBounds_toArray, List.set_cons_zero, List.set_cons_succ, List.getElem_toArray, List.getElem_cons_succ, List.getElem_cons_zero]
        refine wpAnyH_take (i := 6) (oi := _) (v := Value.bool true) rfl (by kernel_rfl) (by kernel_rfl) (by kernel_rfl) (fun _ _ _ h => h) (Or.inl ⟨by rfl, fun w' hSw => ?_⟩) hHeld ?_
        · obtain ⟨t0, t1, t2, t3, t4, t5, t6, t7⟩ := hSw
          go_simp
          try simp [*]
          try (intro hh; exfalso; omega)
          try omega
          try exact HS1N.out
          try exact ⟨HS1N.out, HS3.out⟩
        try simp only [Act.put, List.setIfInBounds_toArray, List.set_cons_zero, List.set_cons_succ, List.getElem_toArray, List.getElem_cons_succ, List.getElem_cons_zero]
        refine wpAnyH_done (by kernel_rfl) ?_ _
        clear hHeld
        gi_wp2
        have hko : KeepsOthers Z _ := ⟨(HD0.out).size, fun k o hk ho => ((HD0.out).block k (Array.getElem?_eq_some_iff.1 hk).1).trans hk⟩
        refine ⟨hko.from _, ⟨hko.size, fun q hq => (HD0.out).block q (HQZ.out q hq)⟩, ?_⟩
        have q := HI.out.below HJK.out HLT.out (HD0.out)
        unfold SnI at q ⊢
        rw [← HLFE.out] at q
        rw [HNX.out.1, HNX.out.2]
        exact q
  case done =>
    rintro D ys Z hD hys hi hK
    subst hys
    have HJ9 := Lib.hid (HJ.out.putObj (.deferred none) hi.1 (by have := HZ5.out; omega) hK rfl)
    have HK := Lib.hid hK
    clear hi hK hseq
    gi_wp2
    refine ⟨by simp, .inl ⟨_, _, rfl, run_takeDeferred HK.out, ?_⟩⟩
    exact ⟨_, results_none rfl _ _ _, ⟨_, rfl⟩, _, rfl, HJ9.out⟩

end Go.Proofs.Ytbbaehmfadpgeaa

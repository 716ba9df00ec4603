/-
  Clock: all pairs of exchanges, one after another.
-/
import Derived.Test.YtcchmjbedppfnaaCkJ
namespace Go.Proofs.Ytcchmjbedppfnaa
open Go.RowKit Go.Shelf
attribute [local go_sem] Oper.semAt_some
set_option linter.unusedSimpArgs false
abbrev Pq (n : Nat) := { p : Nat × Nat // p.1 < p.2 ∧ p.2 < n }
def pqs {n : Nat} (x : Pq n) : Array Value := #[.agg #[.int .i64 x.1.1, .int .i64 x.1.2]]
/-- what has come ahead of the pair (I, K) -/
def PreQ (n K I : Nat) (pre : List (Pq n)) : Prop := ∀ i k : Nat, (∃ p ∈ pre, p.1 = (i, k)) ↔ i < k ∧ k < n ∧ (k < K ∨ (k = K ∧ i < I))
def AllQ (n : Nat) (ys : List (Pq n)) : Prop := ∀ i k : Nat, (∃ p ∈ ys, p.1 = (i, k)) ↔ i < k ∧ k < n
def SpQ (n : Nat) (pre : List (Pq n)) : Prop := ∃ pre' x, pre = pre' ++ [x] ∧ PreQ n x.1.2 x.1.1 pre'
theorem PreQ.start (n : Nat) : PreQ n 0 0 [] := fun i k => ⟨fun ⟨_, h, _⟩ => (by cases h), fun ⟨a, b, c⟩ => (by omega)⟩
theorem PreQ.row {n K : Nat} {pre : List (Pq n)} (h : PreQ n K K pre) : PreQ n (K + 1) 0 pre := fun i k => (h i k).trans ⟨fun ⟨a, b, c⟩ => ⟨a, b, by omega⟩, fun ⟨a, b, c⟩ => ⟨a, b, by omega⟩⟩
theorem PreQ.step {n K I : Nat} {pre : List (Pq n)} (h : PreQ n K I pre) (x : Pq n) (hx : x.1 = (I, K)) : PreQ n K (I + 1) (pre ++ [x]) := fun i k => by
  have h1 := x.2.1
  have h2 := x.2.2
  rw [hx] at h1 h2
  simp only at h1 h2
  constructor
  · rintro ⟨p, hp, e⟩
    rcases List.mem_append.1 hp with hp | hp
    · obtain ⟨a, b, c⟩ := (h i k).1 ⟨p, hp, e⟩
      exact ⟨a, b, by omega⟩
    · obtain rfl : p = x := by simpa using hp
      rw [hx] at e
      simp only [Prod.mk.injEq] at e
      omega
  · rintro ⟨a, b, c⟩
    by_cases q : k = K ∧ i = I
    · exact ⟨x, by simp, by rw [hx, q.1, q.2]⟩
    · obtain ⟨p, hp, e⟩ := (h i k).2 ⟨a, b, by omega⟩
      exact ⟨p, List.mem_append_left _ hp, e⟩
theorem PreQ.all {n : Nat} {pre : List (Pq n)} (h : PreQ n n 0 pre) : AllQ n pre := fun i k => (h i k).trans ⟨fun ⟨a, b, _⟩ => ⟨a, b⟩, fun ⟨a, b⟩ => ⟨a, b, by omega⟩⟩
set_option maxRecDepth 100000 in
set_option maxHeartbeats 4000000 in
theorem pairs_in (n : Nat) (hn : 1 ≤ n) (l Bn N : Nat) (hN : N ≤ 64)
    (J Jx : List (Pq N) → World → Prop)
    (hY : ∀ pre (x : Pq N) W, J pre W → pre.length < 4160 → YieldAt Fence.wide (n - 1) Try.prog l (pqs x) W fun e W' =>
      (e = .returned (.bool true) ∧ J (pre ++ [x]) W' ∧ True) ∨ (e = .returned (.bool false) ∧ Jx (pre ++ [x]) W'))
    (W : World) (h0 : W.cell? ⟨Bn, 0, none⟩ = some (.int .i64 N)) (hJ0 : J [] W) :
    CallsIn Fence.wide n Try.prog 159 #[.func (.yield l) #[] #[], .pointer (some ⟨Bn, 0, none⟩)] W fun e W' => (∃ v, e = .returned v) ∧
      ((∃ ys, AllQ N ys ∧ J ys W') ∨ (∃ pre, SpQ N pre ∧ Jx pre W')) := by
  have HP0 := Lib.hid (PreQ.start N)
  have HPR := Lib.hid (fun K pre (g : PreQ N K K pre) => g.row)
  have HPS := Lib.hid (fun K I pre (g : PreQ N K I pre) x hx => g.step x hx)
  have HPA := Lib.hid (fun pre (g : PreQ N N 0 pre) => g.all)
  have HSP := Lib.hid (fun pre' x (g : PreQ N x.1.2 x.1.1 pre') => show SpQ N (pre' ++ [x]) from ⟨pre', x, rfl, g⟩)
  generalize AllQ N = AS at *
  generalize SpQ N = SS at *
  refine callsIn_of_wp Try.func159 rfl trivial ?_ rfl
  simp only [Try.ntmps159, List.size_toArray, List.length_cons, List.length_nil, Nat.reduceAdd, Nat.reduceSub, Array.replicate_succ, Array.replicate_zero, List.push_toArray, List.append_toArray, List.nil_append, List.cons_append]
  gi_wp2
  clear h0
  gi_loopw [6] (fun y wr => ∃ (K : Nat) (pre : List (Pq N)), K ≤ N ∧ y = .int .i64 K ∧ PreQ N K 0 pre ∧ pre.length ≤ 64 * K ∧ J pre wr) (fun y _ => N - (intOf y).toNat)
  case atStart => exact ⟨0, [], Nat.zero_le _, rfl, HP0.out, by simp, hJ0⟩
  case round =>
    obtain ⟨K, pre, hK, rfl, hP, hlen, hJp⟩ := hrel
    have HP := Lib.hid hP
    have HJp := Lib.hid hJp
    clear hP hJp
    by_cases hKn : K < N
    · have hki : (K : Int) < (N : Int) := by omega
      gi_wp2
      gi_loopw [10] (fun x wr => ∃ (I : Nat) (pre : List (Pq N)), I ≤ K ∧ x = .int .i64 I ∧ PreQ N K I pre ∧ pre.length ≤ 64 * K + I ∧ J pre wr) (fun x _ => K - (intOf x).toNat)
      case atStart => exact ⟨0, pre, Nat.zero_le _, rfl, HP.out, by omega, HJp.out⟩
      case round =>
        clear HP HJp hlen
        obtain ⟨I, pre, hI, rfl, hP, hlen, hJp⟩ := hrel
        have HP := Lib.hid hP
        clear hP
        by_cases hIe : I < K
        · have hii : (I : Int) < (K : Int) := by omega
          obtain ⟨xx, hxx⟩ : ∃ xx : Pq N, xx.1 = (I, K) := ⟨⟨(I, K), hIe, hKn⟩, rfl⟩
          have HPN := Lib.hid (HPS.out K I pre HP.out xx hxx)
          have HSN := Lib.hid (HSP.out pre xx (by rw [hxx]; exact HP.out))
          obtain ⟨fn, tmps, assign, body, hy, hR⟩ := hY pre xx _ hJp (by omega)
          unfold pqs at hy
          rw [hxx] at hy
          simp only at hy
          clear hxx hJp
          gi_wp2
          refine hR.mono ?_
          rintro e W3 (⟨rfl, hJ3, -⟩ | ⟨rfl, hJx3⟩)
          · gi_wp2
            go_roundw
            case rel => exact ⟨I + 1, _, by omega, by go_num, HPN.out, by simp; omega, hJ3⟩
            case measure => simp [intOf]; omega
          · gi_wp2
            refine bodyPost_ret (results_none rfl _ _ _) rfl ?_
            exact ⟨⟨_, rfl⟩, .inr ⟨_, HSN.out, hJx3⟩⟩
        · obtain rfl : I = K := by omega
          gi_wp2
          go_roundw
          case rel => exact ⟨I + 1, pre, by omega, by go_num, HPR.out _ _ HP.out, by omega, hJp⟩
          case measure => simp [intOf]; omega
    · obtain rfl : K = N := by omega
      gi_wp2
      go_end0
      exact ⟨⟨_, rfl⟩, .inl ⟨pre, HPA.out _ HP.out, HJp.out⟩⟩
theorem pairs_stops (n : Nat) (hn : 1 ≤ n) (Bn N : Nat) (hN : N ≤ 64) (w : World) (h0 : w.cell? ⟨Bn, 0, none⟩ = some (.int .i64 N)) :
    SeqStopsK Fence.wide n Try.prog 159 #[.pointer (some ⟨Bn, 0, none⟩)] (pqs (n := N)) (fun _ _ => True) (AllQ N) (SpQ N) 4160 w := fun l J Jx W hW _ _ hY h00 =>
  pairs_in n hn l Bn N hN J Jx hY W ((hW.cell (p := ⟨Bn, 0, none⟩) (World.block_lt_of_cell? w ⟨Bn, 0, none⟩ h0)).trans h0) h00
set_option maxHeartbeats 1000000 in
theorem pairs_any (N : Int) (w : World) : Calls Try.prog 137 #[.int .i64 N] w fun e w' => e = .returned (.func (.func 159) #[] #[.pointer (some ⟨w.heap.size, 0, none⟩)]) ∧ w' = w.alloc (.cells #[.int .i64 N] 3) := by
  go_enter Try.func137, Try.ntmps137
  go_wp2_with fail
  go_ret
  exact ⟨rfl, rfl⟩
end Go.Proofs.Ytcchmjbedppfnaa

/-
  Cables: the visit of a subtree.
-/
import Derived.Test.YtdohfpnnmppdkaaCbD
namespace Go.Proofs.Ytdohfpnnmppdkaa
open Go.RowKit Go.Shelf
set_option linter.unusedSimpArgs false
theorem kids_zero (P : Nat → Nat) (k : Nat) : kids P 0 k = [] := rfl
theorem kids_yes {P : Nat → Nat} {i k : Nat} (h0 : 0 < i) (h : P i = k) : kids P (i + 1) k = kids P i k ++ [i] := by
  unfold kids
  rw [List.range_succ, List.filter_append]
  simp [h0, h]
theorem kids_no {P : Nat → Nat} {i k : Nat} (h : ¬ (0 < i ∧ P i = k)) : kids P (i + 1) k = kids P i k := by
  unfold kids
  rw [List.range_succ, List.filter_append]
  have : decide (0 < i ∧ P i = k) = false := decide_eq_false h
  rw [List.filter_cons_of_neg (by simp only [this]; decide), List.filter_nil, List.append_nil]
/-- what a visit of a subtree needs of the memory: what is visited, the nodes, the walk itself -/
def WalkAt (Bt Bc Bw g : Nat) (lb : Array Value) (sv : Value) (ns : List Nd) (W : World) : Prop :=
  W.cell? ⟨Bt, 0, none⟩ = some (.func (.func g) #[] lb) ∧ W.cell? ⟨Bc, 1 + 1, none⟩ = some sv ∧ W.cell? ⟨Bw, 0, none⟩ = some (.func (.func 148) #[] #[.pointer (some ⟨Bt, 0, none⟩), .pointer (some ⟨Bc, 0, none⟩), .pointer (some ⟨Bw, 0, none⟩)]) ∧ Nds W.heap.size W sv ns
def WalkP (J : List Nat → World → Prop) (l : List Nat) (e : Ending) (W' : World) : Prop := e = .returned (.tuple #[]) ∧ J l W'
set_option maxRecDepth 100000 in
set_option maxHeartbeats 4000000 in
theorem walk_any (Bt Bc Bw g : Nat) (lb : Array Value) (a : Option Addr) (cap : Nat) (ns : List Nd) (hv : AllN ns) (hl : ns.length ≤ 60) (eg : ∀ args w, (callFunc g args).run Try.prog w = .ok (.enter g args) w) (root : Nat) (J : List Nat → World → Prop)
    (hJ : ∀ pre W W', J pre W → Below W.heap.size W W' → J pre W')
    (hF : ∀ pre W, J pre W → WalkAt Bt Bc Bw g lb (.slice a ns.length cap) ns W)
    (hV : ∀ pre k W, k < ns.length → (k = root ∨ par ns k ∈ pre) → J pre W → Calls Try.prog g (#[.int .i64 (k : Int)] ++ lb) W (WalkP J (pre ++ [k]))) :
    ∀ (m k : Nat) pre W, ns.length - k ≤ m → k < ns.length → (k = root ∨ par ns k ∈ pre) → J pre W →
      Calls Try.prog 148 #[.int .i64 (k : Int), .pointer (some ⟨Bt, 0, none⟩), .pointer (some ⟨Bc, 0, none⟩), .pointer (some ⟨Bw, 0, none⟩)] W (WalkP J (pre ++ dfs (par ns) ns.length k)) := by
  intro m
  induction m with
  | zero => intro k pre W h1 h2; omega
  | succ m ih =>
    intro k pre W hm hk hc hj
    have HIH := Lib.hid (fun i pre' W' (h1 : k < i) (h2 : i < ns.length) (h3 : par ns i ∈ pre') (h4 : J pre' W') => ih i pre' W' (by omega) h2 (.inr h3) h4)
    have HV0 := Lib.hid (hV pre k W hk hc hj)
    have HD := Lib.hid (dfs_eq hv.tree hk)
    have HT := Lib.hid (fun i => hv.tree i)
    have HPE := Lib.hid (fun i (h : i < ns.length) (h0 : 0 < i) => hv.par_eq h h0)
    have HP0 := Lib.hid (fun (h : 0 < ns.length) => (hv.shore h).1)
    have HJ := Lib.hid hJ
    have EG := Lib.hid eg
    have HF := Lib.hid (fun pre W (h : J pre W) => hF pre W h)
    have hw := hF pre W hj
    clear ih hV hJ hF hc eg
    obtain ⟨w0, w1, w2, -⟩ := hw
    have HLN := Lib.hid (show ∀ q W, J q W → ∀ i, i < ns.length → ∃ b off, a = some ⟨b, off, none⟩ ∧ b < W.heap.size ∧ W.cell? ⟨b, off + i * 8, none⟩ = some (.int .i64 (nd ns i).par) ∧ W.cell? ⟨b, off + i * 8 + 1, none⟩ = some (.int .i64 (nd ns i).ol) ∧ W.cell? ⟨b, off + i * 8 + 2, none⟩ = some (.int .i64 (nd ns i).oh) ∧ W.cell? ⟨b, off + i * 8 + 3, none⟩ = some (.int .i64 (nd ns i).lim) ∧ W.cell? ⟨b, off + i * 8 + 4, none⟩ = some (.int .i64 (nd ns i).ll) ∧ W.cell? ⟨b, off + i * 8 + 5, none⟩ = some (.int .i64 (nd ns i).lh) ∧ W.cell? ⟨b, off + i * 8 + 6, none⟩ = some (.int .i64 (nd ns i).lea) ∧ W.cell? ⟨b, off + i * 8 + 7, none⟩ = some (.int .i64 (nd ns i).del) from fun q W h i hi => by
      obtain ⟨a', cap', e, _, hc⟩ := (HF.out q W h).2.2.2
      obtain ⟨b, off, e1, h2, h3⟩ := hc i hi
      simp only [Value.slice.injEq] at e
      exact ⟨b, off, e.1.trans e1, h2, h3⟩)
    unfold WalkP at HV0
    unfold WalkP
    clear hj hm
    generalize hn : ns.length = n at *
    clear hn
    go_enter Try.func148, Try.ntmps148
    go_wp2_with fail
    rw [EG.out, Oper.upon_enter]
    refine HV0.out.mono ?_
    rintro e W1 ⟨rfl, hj1⟩
    have HJ1 := Lib.hid hj1
    obtain ⟨w0', w1', w2', -⟩ := HF.out _ _ hj1
    clear hj1 w0 w1 w2
    go_wp2_with fail
    go_loopw [13] (fun iv wr => ∃ i : Nat, i ≤ n ∧ iv = .int .i64 i ∧ J (pre ++ k :: (kids (par ns) i k).flatMap (dfs (par ns) n)) wr) (fun iv _ => n - (intOf iv).toNat)
    case atStart => exact ⟨0, Nat.zero_le _, rfl, HJ1.out⟩
    case round =>
      obtain ⟨i, hi, rfl, hjr⟩ := hrel
      have HJR := Lib.hid hjr
      have hw := HF.out _ _ hjr
      clear hjr w0' w1' w2'
      obtain ⟨u0, u1, u2, -⟩ := hw
      by_cases hlt : i < n
      · have hki : (i : Int) < (n : Int) := by omega
        obtain ⟨b, off, hab, hb, n0, n1, n2, n3, n4, n5, n6, n7⟩ := HLN.out _ _ HJR.out i hlt
        subst hab
        have HPX := Lib.hid (show (nd ns i).par = (if i = 0 then -1 else (par ns i : Int)) by
          split
          · rename_i h; subst h; exact HP0.out hlt
          · exact HPE.out i hlt (by omega))
        have HTX := Lib.hid (fun (h : 0 < i) => HT.out i h)
        generalize (nd ns i).par = xpar at *
        generalize (nd ns i).ol = xol at *
        generalize (nd ns i).oh = xoh at *
        generalize (nd ns i).lim = xlim at *
        generalize (nd ns i).ll = xll at *
        generalize (nd ns i).lh = xlh at *
        generalize (nd ns i).lea = xlea at *
        generalize (nd ns i).del = xdel at *
        go_upto_region 4 with fail
        obtain ⟨V, hV⟩ : ∃ V, V = wr.alloc (.cells #[.int .i64 xpar, .int .i64 xol, .int .i64 xoh, .int .i64 xlim, .int .i64 xll, .int .i64 xlh, .int .i64 xlea, .int .i64 xdel] 62) := ⟨_, rfl⟩
        try rw [← hV]
        have HBV := Lib.hid (show Below wr.heap.size wr V by rw [hV]; exact (Below.refl _ _).alloc (Nat.le_refl _) _)
        have HJV := Lib.hid (HJ.out _ _ _ HJR.out HBV.out)
        have hX := show V.heap[wr.heap.size]? = some (.cells #[.int .i64 xpar, .int .i64 xol, .int .i64 xoh, .int .i64 xlim, .int .i64 xll, .int .i64 xlh, .int .i64 xlea, .int .i64 xdel] 62 (0, 0)) by rw [hV]; exact World.alloc_heap_new _ _
        have e0 : V.cell? ⟨wr.heap.size, 0, none⟩ = some (.int .i64 xpar) := cellHB hX 0
        clear hV hX n0 n1 n2 n3 n4 n5 n6 n7 u0 u1 u2
        obtain ⟨u0, u1, u2, -⟩ := HF.out _ _ HJV.out
        by_cases hpk : 0 < i ∧ par ns i = k
        · have hxk : (xpar == (k : Int)) = true := by
            rw [HPX.out, if_neg (by omega), hpk.2]; simp
          have HK := Lib.hid (kids_yes hpk.1 hpk.2)
          have HR := Lib.hid (HIH.out i _ V (by have := HTX.out hpk.1; omega) hlt (by rw [hpk.2]; simp) HJV.out)
          unfold WalkP at HR
          clear hpk
          go_wp2_with fail
          refine HR.out.mono ?_
          rintro e W3 ⟨rfl, hj3⟩
          have HJ3 := Lib.hid hj3
          clear hj3 u0 u1 u2 e0
          go_wp2_with fail
          go_roundw
          case rel => exact ⟨i + 1, by omega, by go_num, by rw [HK.out, List.flatMap_append]; simpa using HJ3.out⟩
          case measure => simp [intOf]; omega
        · have hxk : (xpar == (k : Int)) = false := by
            rw [HPX.out]
            split
            all_goals first | (simp; done) | (simp; omega)
          have HK := Lib.hid (kids_no hpk)
          clear hpk
          go_wp2_with fail
          go_roundw
          case rel => exact ⟨i + 1, by omega, by go_num, by rw [HK.out]; exact HJV.out⟩
          case measure => simp [intOf]; omega
      · obtain rfl : i = n := by omega
        go_wp2_with fail
        go_end0
        exact ⟨rfl, by rw [HD.out]; exact HJR.out⟩
/-- the three blocks of a visit stay -/
def Kept3 (n : Nat) (W W' : World) : Prop := ∀ b, n ≤ b → b < n + 3 → W'.heap[b]? = W.heap[b]?
def VisP (n : Nat) (W : World) (J : List Nat → World → Prop) (l : List Nat) (e : Ending) (W' : World) : Prop := e = .returned (.tuple #[]) ∧ J l W' ∧ Kept3 n W W'
set_option maxRecDepth 100000 in
set_option maxHeartbeats 4000000 in
theorem down_any (sl sh : Int) (a : Option Addr) (cap g : Nat) (lb : Array Value) (ns : List Nd) (hv : AllN ns) (hl : ns.length ≤ 60) (eg : ∀ args w, (callFunc g args).run Try.prog w = .ok (.enter g args) w) (k : Nat) (hk : k < ns.length) (w : World) (J : List Nat → World → Prop)
    (hJ : ∀ pre W W', J pre W → Below W.heap.size W W' → J pre W')
    (hF : ∀ pre W, J pre W → Nds W.heap.size W (.slice a ns.length cap) ns)
    (hV : ∀ pre j W, j < ns.length → (j = k ∨ par ns j ∈ pre) → w.heap.size + 3 ≤ W.heap.size → J pre W → Calls Try.prog g (#[.int .i64 (j : Int)] ++ lb) W (VisP w.heap.size W J (pre ++ [j])))
    (h0 : J [] w) :
    Calls Try.prog 83 #[.agg #[.int .i64 sl, .int .i64 sh, .slice a ns.length cap], .int .i64 (k : Int), .func (.func g) #[] lb] w (WalkP J (dfs (par ns) ns.length k)) := by
  have hJ2 := fun pre W W' (h : J pre W ∧ W.heap[w.heap.size]? = some (.cells #[.int .i64 sl, .int .i64 sh, .slice a ns.length cap] 26 (0, 0)) ∧ W.heap[w.heap.size + 1]? = some (.cells #[.func (.func g) #[] lb] 132 (0, 0)) ∧ W.heap[w.heap.size + 1 + 1]? = some (.cells #[.func (.func 148) #[] #[.pointer (some ⟨w.heap.size + 1, 0, none⟩), .pointer (some ⟨w.heap.size, 0, none⟩), .pointer (some ⟨w.heap.size + 1 + 1, 0, none⟩)]] 132 (0, 0))) (hb : Below W.heap.size W W') =>
    show J pre W' ∧ W'.heap[w.heap.size]? = some (.cells #[.int .i64 sl, .int .i64 sh, .slice a ns.length cap] 26 (0, 0)) ∧ W'.heap[w.heap.size + 1]? = some (.cells #[.func (.func g) #[] lb] 132 (0, 0)) ∧ W'.heap[w.heap.size + 1 + 1]? = some (.cells #[.func (.func 148) #[] #[.pointer (some ⟨w.heap.size + 1, 0, none⟩), .pointer (some ⟨w.heap.size, 0, none⟩), .pointer (some ⟨w.heap.size + 1 + 1, 0, none⟩)]] 132 (0, 0)) from
    ⟨hJ _ _ _ h.1 hb, (hb.block _ (Array.getElem?_eq_some_iff.1 h.2.1).1).trans h.2.1, (hb.block _ (Array.getElem?_eq_some_iff.1 h.2.2.1).1).trans h.2.2.1, (hb.block _ (Array.getElem?_eq_some_iff.1 h.2.2.2).1).trans h.2.2.2⟩
  have q := fun W => walk_any (w.heap.size + 1) w.heap.size (w.heap.size + 1 + 1) g lb a cap ns hv hl eg k (fun pre W => J pre W ∧ W.heap[w.heap.size]? = some (.cells #[.int .i64 sl, .int .i64 sh, .slice a ns.length cap] 26 (0, 0)) ∧ W.heap[w.heap.size + 1]? = some (.cells #[.func (.func g) #[] lb] 132 (0, 0)) ∧ W.heap[w.heap.size + 1 + 1]? = some (.cells #[.func (.func 148) #[] #[.pointer (some ⟨w.heap.size + 1, 0, none⟩), .pointer (some ⟨w.heap.size, 0, none⟩), .pointer (some ⟨w.heap.size + 1 + 1, 0, none⟩)]] 132 (0, 0)))
    hJ2 (fun pre W h => ⟨cellHB h.2.2.1 0, cellHB h.2.1 2, cellHB h.2.2.2 0, hF pre W h.1⟩)
    (fun pre j W hj hc h => (hV pre j W hj hc (by have := (Array.getElem?_eq_some_iff.1 h.2.2.2).1; omega) h.1).mono fun e W' hp => by
      obtain ⟨he, hj', hkp⟩ := hp
      exact ⟨he, hj', (hkp _ (by omega) (by omega)).trans h.2.1, (hkp _ (by omega) (by omega)).trans h.2.2.1, (hkp _ (by omega) (by omega)).trans h.2.2.2⟩)
    (ns.length - k) k [] W (Nat.le_refl _) hk (.inl rfl)
  have Q := Lib.hid q
  have HJ := Lib.hid hJ
  clear q hJ2 hV hF hJ eg
  obtain ⟨A, hA⟩ : ∃ A, A = ((w.alloc (.cells #[.int .i64 sl, .int .i64 sh, .slice a ns.length cap] 26)).alloc (.cells #[.func (.func g) #[] lb] 132)).alloc (.cells #[.func (.func 148) #[] #[.pointer (some ⟨w.heap.size + 1, 0, none⟩), .pointer (some ⟨w.heap.size, 0, none⟩), .pointer (some ⟨w.heap.size + 1 + 1, 0, none⟩)]] 132) := ⟨_, rfl⟩
  have hBA : Below w.heap.size w A := by rw [hA]; exact ((((Below.refl _ _).alloc (Nat.le_refl _) _).alloc (by simp) _).alloc (by simp; omega) _)
  have hK0 : A.heap[w.heap.size]? = some (.cells #[.int .i64 sl, .int .i64 sh, .slice a ns.length cap] 26 (0, 0)) := by
    rw [hA]; exact (Below.heap_alloc _ _ _ (by simp; omega)).trans ((Below.heap_alloc _ _ _ (by simp)).trans (World.alloc_heap_new w _))
  have hK1 : A.heap[w.heap.size + 1]? = some (.cells #[.func (.func g) #[] lb] 132 (0, 0)) := by
    rw [hA]; refine (Below.heap_alloc _ _ _ (by simp)).trans ?_
    have q := World.alloc_heap_new (w.alloc (.cells #[.int .i64 sl, .int .i64 sh, .slice a ns.length cap] 26)) (.cells #[.func (.func g) #[] lb] 132)
    simpa using q
  have hK2 : A.heap[w.heap.size + 1 + 1]? = some (.cells #[.func (.func 148) #[] #[.pointer (some ⟨w.heap.size + 1, 0, none⟩), .pointer (some ⟨w.heap.size, 0, none⟩), .pointer (some ⟨w.heap.size + 1 + 1, 0, none⟩)]] 132 (0, 0)) := by
    rw [hA]
    have q := World.alloc_heap_new ((w.alloc (.cells #[.int .i64 sl, .int .i64 sh, .slice a ns.length cap] 26)).alloc (.cells #[.func (.func g) #[] lb] 132)) (.cells #[.func (.func 148) #[] #[.pointer (some ⟨w.heap.size + 1, 0, none⟩), .pointer (some ⟨w.heap.size, 0, none⟩), .pointer (some ⟨w.heap.size + 1 + 1, 0, none⟩)]] 132)
    simpa using q
  have Q1 := Lib.hid (Q.out A ⟨HJ.out _ _ _ h0 hBA, hK0, hK1, hK2⟩)
  have c0 : A.cell? ⟨w.heap.size + 1 + 1, 0, none⟩ = some (.func (.func 148) #[] #[.pointer (some ⟨w.heap.size + 1, 0, none⟩), .pointer (some ⟨w.heap.size, 0, none⟩), .pointer (some ⟨w.heap.size + 1 + 1, 0, none⟩)]) := cellHB hK2 0
  clear Q hK0 hK1 hK2 hBA h0
  unfold WalkP at Q1
  unfold WalkP
  go_enter Try.func83, Try.ntmps83
  go_upto_region 3 with fail
  rw [← hA]
  clear hA
  go_wp2_with fail
  refine Q1.out.mono ?_
  rintro e w1 ⟨rfl, hj, -⟩
  have HJ1 := Lib.hid hj
  clear hj
  go_wp2_with fail
  go_end0
  exact ⟨rfl, by simpa using HJ1.out⟩
end Go.Proofs.Ytdohfpnnmppdkaa

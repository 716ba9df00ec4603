/-
  Cables: lists of spans and answers compared; currents and voltages of both sides.
-/
import Derived.Test.YtdohfpnnmppdkaaGreatCcB
import Derived.Test.YtdohfpnnmppdkaaGreatNarMath
import Derived.Test.YtdohfpnnmppdkaaGreatCbR
import Derived.Test.YtdohfpnnmppdkaaGreatCbQ
namespace Go.Proofs.YtdohfpnnmppdkaaGreat
open Go.RowKit Go.Shelf
set_option linter.unusedSimpArgs false
attribute [local go_sem] Oper.semAt_some
/-- the first n values of a function -/
def fL (f : Nat → Int) (n : Nat) : List Int := (List.range n).map f
theorem fL_len (f : Nat → Int) (n : Nat) : (fL f n).length = n := by unfold fL; simp
theorem fL_ti (f : Nat → Int) {n k : Nat} (hk : k < n) : ti (fL f n) k = f k := by unfold fL ti; simp [hk]
theorem fL_succ (f : Nat → Int) (n : Nat) : (fL f (n + 1)).map (fun x => Value.int .i64 x) = (fL f n).map (fun x => Value.int .i64 x) ++ [.int .i64 (f n)] := by unfold fL; simp [List.range_succ]
theorem il_of_ints {W : World} {base : Nat} {t : TypeId} {v : Value} {n : Nat} {f : Nat → Int} (h : W.ownsRow base t 1 v n ((fL f n).map (fun x => Value.int .i64 x))) : Il W.heap.size W v (fL f n) := by
  obtain ⟨hl, h⟩ := h
  rcases h with ⟨hv, h0⟩ | ⟨g, cap, cur, hv, hb, hg, hc1, hc2, hs, ht⟩
  · subst hv
    subst h0
    exact il_nil _ _
  · subst hv
    refine ⟨some ⟨g, 0, none⟩, cap, by rw [fL_len], by rw [fL_len]; exact hc1, fun k hk => ⟨g, 0, rfl, (Array.getElem?_eq_some_iff.1 hg).1, ?_⟩⟩
    rw [fL_len] at hk
    rw [cellHB hg, Nat.zero_add]
    have e : cur.toList[k]? = ((fL f n).map (fun x => Value.int .i64 x))[k]? := by
      rw [← ht, List.getElem?_take_of_lt (by simpa using hk)]
    have e2 : cur[k]? = ((fL f n).map (fun x => Value.int .i64 x))[k]? := by simpa using e
    rw [e2, fL_ti f hk]
    unfold fL
    simp [hk]
theorem infoI66 : (Tryz.prog.info? 61).map (fun i => (i.zero, i.size, i.bytes)) = some (some (.int .i64 0), 1, 8) := by kernel_rfl
theorem one_new66 (W : World) (x : Value) : ∀ (j : Nat) (u : Value), [x][j]? = some u → (W.alloc (.cells #[x] 61)).cell? ((⟨W.heap.size, 0, none⟩ : Addr).add j) = some u := by
  intro j u hj
  match j, hj with
  | 0, h => simp at h; subst h; simp [Addr.add, go_sem]
set_option maxHeartbeats 1000000 in
theorem answer_any (c p : Bool) (w : World) : Calls Tryz.prog 55 #[.bool c, .bool p] w fun e w' => e = .returned (.int .i64 (ansV c p)) ∧ w' = w := by
  cases c <;> cases p
  all_goals
    go_enter Tryz.func55, Tryz.ntmps55
    go_wp2
    go_ret
    exact ⟨rfl, rfl⟩
def SpsR (E : Int) (n : Nat) (f : Nat → Int × Int) (w : World) (e : Ending) (w' : World) : Prop := ∃ v, e = .returned (.tuple #[v, .int .i64 E]) ∧ Sv w'.heap.size w' v (if E = 0 then n else 0) f ∧ Below w.heap.size w w'
def AnsR (E : Int) (n : Nat) (f : Nat → Int) (w : World) (e : Ending) (w' : World) : Prop := ∃ v, e = .returned (.tuple #[v, .int .i64 E]) ∧ Il w'.heap.size w' v (fL f (if E = 0 then n else 0)) ∧ Below w.heap.size w w'
theorem vol30_all (sl sh : Int) (sv : Value) (ns : List Nd) (w : World) (hN : Nds w.heap.size w sv ns) :
    Calls Tryz.prog 16 #[.agg #[.int .i64 sl, .int .i64 sh, sv]] w (SpsR (cabE sl sh ns) ns.length (vol sl sh ns) w) := by
  by_cases hE : cabE sl sh ns = 0
  · refine (voltages_ok sl sh sv ns (cabE_ok hE) w hN).mono fun e w' h => ?_
    obtain ⟨g, rfl, hr, -, hb⟩ := h
    exact ⟨_, by rw [hE], by rw [if_pos hE]; exact sv_of_row hr, hb⟩
  · refine (voltages_bad sl sh sv ns hE w hN).mono fun e w' h => ?_
    obtain ⟨rfl, hb⟩ := h
    exact ⟨_, rfl, by rw [if_neg hE]; exact sv_nil _ _ _, hb⟩
end Go.Proofs.YtdohfpnnmppdkaaGreat

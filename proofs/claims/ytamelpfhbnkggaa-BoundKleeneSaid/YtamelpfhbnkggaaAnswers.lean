/-
  Lists of answers.
-/
import Derived.Test.YtamelpfhbnkggaaRefSmall
import Derived.Test.YtamelpfhbnkggaaMinMax
namespace Go.Proofs.Ytamelpfhbnkggaa
open Go.RowKit Go.Shelf
/-- a value is a slice of these numbers -/
def SlA (w : World) (v : Value) (zs : List Int) : Prop :=
  (∃ ad cap, v = .slice ad 0 cap ∧ zs = []) ∨ ∃ b off cap, v = .slice (some ⟨b, off, none⟩) zs.length cap ∧ zs.length ≤ 9223372036854775807 ∧ b < w.heap.size ∧ ∀ k, k < zs.length → w.cell? ⟨b, off + k, none⟩ = some (.int .i64 (zs[k]?.getD 0))
def okA (z : Int) : Bool := decide (0 ≤ z ∧ z ≤ 2)
def ansL (zs : List Int) : Int := if 256 < zs.length then 6 else if zs.all okA = true then 0 else 2
theorem all_of_get (zs : List Int) (h : ∀ j, j < zs.length → okA (zs[j]?.getD 0) = true) : zs.all okA = true := by
  rw [List.all_eq_true]
  intro z hz
  obtain ⟨j, hj, rfl⟩ := List.getElem_of_mem hz
  have := h j hj
  rwa [List.getElem?_eq_getElem hj, Option.getD_some] at this
theorem not_all_of_get (zs : List Int) (k : Nat) (hk : k < zs.length) (h : ¬ okA (zs[k]?.getD 0) = true) : ¬ zs.all okA = true := by
  intro ha
  rw [List.all_eq_true] at ha
  refine h ?_
  rw [List.getElem?_eq_getElem hk, Option.getD_some]
  exact ha _ (List.getElem_mem hk)
theorem ansL_many {zs : List Int} (h : 256 < zs.length) : ansL zs = 6 := if_pos h
theorem ansL_bad {zs : List Int} (h : ¬ 256 < zs.length) (k : Nat) (hk : k < zs.length) (hb : ¬ okA (zs[k]?.getD 0) = true) : ansL zs = 2 := by
  unfold ansL; rw [if_neg h, if_neg (not_all_of_get zs k hk hb)]
theorem ansL_ok {zs : List Int} (h : ¬ 256 < zs.length) (ha : ∀ j, j < zs.length → okA (zs[j]?.getD 0) = true) : ansL zs = 0 := by
  unfold ansL; rw [if_neg h, if_pos (all_of_get zs ha)]
theorem okA_iff (z : Int) : okA z = true ↔ 0 ≤ z ∧ z ≤ 2 := by unfold okA; simp

set_option maxHeartbeats 1000000 in
theorem checkAnswers_any (zs : List Int) (v : Value) (w : World) (hv : SlA w v zs) :
    Calls Try.prog 94 #[v] w fun e w' => e = .returned (.int .i64 (ansL zs)) ∧ w' = w := by
  rcases hv with ⟨ad, cap, rfl, rfl⟩ | ⟨b, off, cap, rfl, hmax, hb, hc⟩
  · rw [show ansL [] = 0 from rfl]
    go_enter Try.func94, Try.ntmps94
    go_wp2
    go_loop [11] (fun i => i = .int .i64 0) (fun _ => 0)
    case atStart => rfl
    case round =>
      obtain rfl := hrel
      go_wp2
      go_ret
      exact ⟨rfl, rfl⟩
  · by_cases hm : 256 < zs.length
    · rw [ansL_many hm]
      generalize zs.length = len at hm hmax hc
      clear hc
      go_enter Try.func94, Try.ntmps94
      go_wp2
      go_ret
      exact ⟨rfl, rfl⟩
    · have A0 := Lib.hid (fun k hk hb => ansL_bad (zs := zs) hm k hk hb)
      have A1 := Lib.hid (fun ha => ansL_ok (zs := zs) hm ha)
      generalize ansL zs = r at A0 A1 ⊢
      have HC := Lib.hid hc
      clear hc
      generalize hL : zs.length = len at *
      have HL := Lib.hid hL
      clear hL
      go_enter Try.func94, Try.ntmps94
      go_wp2
      go_loop [11] (fun i => ∃ k : Nat, k ≤ len ∧ i = .int .i64 k ∧ ∀ j, j < k → okA (zs[j]?.getD 0) = true) (fun i => len - (intOf i).toNat)
      case atStart => exact ⟨0, Nat.zero_le _, rfl, fun j hj => absurd hj (Nat.not_lt_zero j)⟩
      case round =>
        obtain ⟨k, hk, rfl, hok⟩ := hrel
        have HO := Lib.hid hok
        clear hok
        by_cases hlt : k < len
        · have hck := HC.out k hlt
          by_cases hz : okA (zs[k]?.getD 0) = true
          · have hz' := (okA_iff _).1 hz
            have HZ := Lib.hid hz
            clear hz
            have c1 := fun w => checkAnswer_any (zs[k]?.getD 0) w
            rw [show ansE (zs[k]?.getD 0) = 0 from if_pos hz'] at c1
            generalize hgz : zs[k]?.getD 0 = z at hck hz' c1
            have HG := Lib.hid hgz
            clear hgz
            go_wp2_with fail
            refine (c1 _).mono ?_
            rintro e w1 ⟨rfl, rfl⟩
            go_wp2_with fail
            refine ⟨⟨k + 1, by omega, rfl, fun j hj => ?_⟩, by simp [intOf]; omega⟩
            rcases Nat.lt_or_ge j k with h | h
            · exact HO.out j h
            · obtain rfl : j = k := by omega
              exact HZ.out
          · have hr := A0.out k hlt hz
            have hz' : ¬ (0 ≤ zs[k]?.getD 0 ∧ zs[k]?.getD 0 ≤ 2) := fun h => hz ((okA_iff _).2 h)
            clear hz
            have c1 := fun w => checkAnswer_any (zs[k]?.getD 0) w
            rw [show ansE (zs[k]?.getD 0) = 2 from if_neg hz'] at c1
            clear hz'
            generalize zs[k]?.getD 0 = z at hck c1
            have HR := Lib.hid hr
            clear hr
            go_wp2_with fail
            refine (c1 _).mono ?_
            rintro e w1 ⟨rfl, rfl⟩
            go_wp2_with fail
            go_ret
            exact ⟨ret_int HR.out.symm, rfl⟩
        · obtain rfl : k = len := by omega
          have hr := A1.out HO.out
          have HR := Lib.hid hr
          clear hr
          go_wp2
          go_ret
          exact ⟨ret_int HR.out.symm, rfl⟩

set_option maxHeartbeats 1000000 in
theorem answers_any (zs : List Int) (v : Value) (w : World) (hv : SlA w v zs) :
    Calls Try.prog 95 #[v] w fun e w' => e = .returned (.int .i64 (ansL zs)) ∧ w' = w := by
  rcases hv with ⟨ad, cap, rfl, rfl⟩ | ⟨b, off, cap, rfl, hmax, hb, hc⟩
  · rw [show ansL [] = 0 from rfl]
    go_enter Try.func95, Try.ntmps95
    go_wp2
    go_loop [3] (fun i => i = .int .i64 0) (fun _ => 0)
    case atStart => rfl
    case round =>
      obtain rfl := hrel
      go_wp2
      go_ret
      exact ⟨rfl, rfl⟩
  · by_cases hm : 256 < zs.length
    · rw [ansL_many hm]
      generalize zs.length = len at hm hmax hc
      clear hc
      go_enter Try.func95, Try.ntmps95
      go_wp2
      go_ret
      exact ⟨rfl, rfl⟩
    · have A0 := Lib.hid (fun k hk hb => ansL_bad (zs := zs) hm k hk hb)
      have A1 := Lib.hid (fun ha => ansL_ok (zs := zs) hm ha)
      generalize ansL zs = r at A0 A1 ⊢
      have HC := Lib.hid hc
      clear hc
      generalize hL : zs.length = len at *
      have HL := Lib.hid hL
      clear hL
      go_enter Try.func95, Try.ntmps95
      go_wp2
      go_loop [3] (fun i => ∃ k : Nat, k ≤ len ∧ i = .int .i64 k ∧ ∀ j, j < k → okA (zs[j]?.getD 0) = true) (fun i => len - (intOf i).toNat)
      case atStart => exact ⟨0, Nat.zero_le _, rfl, fun j hj => absurd hj (Nat.not_lt_zero j)⟩
      case round =>
        obtain ⟨k, hk, rfl, hok⟩ := hrel
        have HO := Lib.hid hok
        clear hok
        by_cases hlt : k < len
        · have hck := HC.out k hlt
          by_cases hz : okA (zs[k]?.getD 0) = true
          · obtain ⟨hz1, hz2⟩ := (okA_iff _).1 hz
            have HZ := Lib.hid hz
            clear hz
            generalize zs[k]?.getD 0 = z at hck hz1 hz2
            go_wp2
            refine ⟨⟨k + 1, by omega, rfl, fun j hj => ?_⟩, by simp [intOf]; omega⟩
            rcases Nat.lt_or_ge j k with h | h
            · exact HO.out j h
            · obtain rfl : j = k := by omega
              exact HZ.out
          · have hr := A0.out k hlt hz
            have hz' : zs[k]?.getD 0 < 0 ∨ (0 ≤ zs[k]?.getD 0 ∧ 2 < zs[k]?.getD 0) := by
              have : ¬ (0 ≤ zs[k]?.getD 0 ∧ zs[k]?.getD 0 ≤ 2) := fun h => hz ((okA_iff _).2 h)
              omega
            clear hz
            generalize zs[k]?.getD 0 = z at hck hz'
            have HR := Lib.hid hr
            clear hr
            rcases hz' with hz' | ⟨hz', hz''⟩
            all_goals
              go_wp2
              go_ret
              exact ⟨ret_int HR.out.symm, rfl⟩
        · obtain rfl : k = len := by omega
          have hr := A1.out HO.out
          have HR := Lib.hid hr
          clear hr
          go_wp2
          go_ret
          exact ⟨ret_int HR.out.symm, rfl⟩

def allS (zs : List Int) : A2 := if ansL zs = 0 then ⟨zs.foldl min 2, 0⟩ else ⟨0, ansL zs⟩
def anyS (zs : List Int) : A2 := if ansL zs = 0 then ⟨zs.foldl max 0, 0⟩ else ⟨0, ansL zs⟩
theorem ansL_short {zs : List Int} (h : ansL zs = 0) : zs.length ≤ 256 ∧ ∀ k, k < zs.length → 0 ≤ zs[k]?.getD 0 ∧ zs[k]?.getD 0 ≤ 2 := by
  unfold ansL at h
  split at h
  · exact absurd h (by decide)
  · split at h
    · rename_i h1 h2
      refine ⟨by omega, fun k hk => ?_⟩
      rw [List.all_eq_true] at h2
      rw [List.getElem?_eq_getElem hk, Option.getD_some]
      exact (okA_iff _).1 (h2 _ (List.getElem_mem hk))
    · exact absurd h (by decide)

set_option maxHeartbeats 1000000 in
theorem all_any (zs : List Int) (v : Value) (w : World) (hv : SlA w v zs) :
    Calls Try.prog 35 #[v] w fun e w' => e = .returned (.tuple #[.int .i64 (allS zs).v, .int .i64 (allS zs).e]) ∧ w' = w := by
  have c1 := checkAnswers_any zs v w hv
  by_cases hz : ansL zs = 0
  · rw [show allS zs = ⟨zs.foldl min 2, 0⟩ from if_pos hz]
    rw [hz] at c1
    obtain ⟨hlen, hel⟩ := ansL_short hz
    clear hz
    rcases hv with ⟨ad, cap, rfl, rfl⟩ | ⟨b, off, cap, rfl, hmax, hb, hc⟩
    · rw [show ([] : List Int).foldl min 2 = 2 from rfl]
      clear hel hlen
      go_enter Try.func35, Try.ntmps35
      go_wp2_with fail
      refine c1.mono ?_
      rintro e w1 ⟨rfl, rfl⟩
      go_wp2_with fail
      go_loop [5, 15] (fun m i => m = .int .i64 2 ∧ i = .int .i64 0) (fun _ _ => 0)
      case atStart => exact ⟨rfl, rfl⟩
      case round =>
        obtain ⟨rfl, rfl⟩ := hrel
        go_wp2
        go_ret2
        exact ⟨rfl, rfl⟩
    · have HC := Lib.hid hc
      clear hc hel
      generalize hL : zs.length = len at *
      have HL := Lib.hid hL
      clear hL
      go_enter Try.func35, Try.ntmps35
      go_wp2_with fail
      refine c1.mono ?_
      rintro e w1 ⟨rfl, rfl⟩
      clear c1
      go_wp2_with fail
      go_loop [5, 15] (fun m i => ∃ k : Nat, k ≤ len ∧ i = .int .i64 k ∧ m = .int .i64 ((zs.take k).foldl min 2)) (fun _ i => len - (intOf i).toNat)
      case atStart => exact ⟨0, Nat.zero_le _, rfl, rfl⟩
      case round =>
        obtain ⟨k, hk, rfl, rfl⟩ := hrel
        by_cases hlt : k < len
        · have hck := HC.out k hlt
          have hs1 : (zs.take (k + 1)).foldl min 2 = min ((zs.take k).foldl min 2) (zs[k]?.getD 0) := foldl_take _ _ _ _ (by rw [HL.out]; exact hlt)
          have Hs1 := Lib.hid hs1
          clear hs1
          generalize (zs.take k).foldl min 2 = mn at Hs1 ⊢
          generalize zs[k]?.getD 0 = z at hck Hs1
          go_wp2
          all_goals
            refine ⟨⟨k + 1, by omega, rfl, ?_⟩, by simp [intOf]; omega⟩
            rw [Hs1.out]
        · obtain rfl : k = len := by omega
          have e1 : zs.take k = zs := List.take_of_length_le (by rw [HL.out]; omega)
          rw [e1]
          generalize hmn : zs.foldl min 2 = mn
          have Hmn := Lib.hid hmn
          clear hmn
          go_wp2
          go_ret2
          exact ⟨by simp [go_sem]; exact Hmn.out.symm, rfl⟩
  · rw [show allS zs = ⟨0, ansL zs⟩ from if_neg hz]
    clear hv
    generalize ansL zs = r at c1 hz ⊢
    go_enter Try.func35, Try.ntmps35
    go_wp2_with fail
    refine c1.mono ?_
    rintro e w1 ⟨rfl, rfl⟩
    go_wp2_with fail
    go_ret2
    exact ⟨rfl, rfl⟩

set_option maxHeartbeats 1000000 in
theorem rall_any (zs : List Int) (v : Value) (w : World) (hv : SlA w v zs) :
    Calls Try.prog 36 #[v] w fun e w' => e = .returned (.tuple #[.int .i64 (allS zs).v, .int .i64 (allS zs).e]) ∧ w' = w := by
  have c1 := answers_any zs v w hv
  by_cases hz : ansL zs = 0
  · rw [show allS zs = ⟨zs.foldl min 2, 0⟩ from if_pos hz]
    rw [hz] at c1
    obtain ⟨hlen, hel⟩ := ansL_short hz
    clear hz
    rcases hv with ⟨ad, cap, rfl, rfl⟩ | ⟨b, off, cap, rfl, hmax, hb, hc⟩
    · rw [show ([] : List Int).foldl min 2 = 2 from rfl]
      clear hel hlen
      go_enter Try.func36, Try.ntmps36
      go_wp2_with fail
      refine c1.mono ?_
      rintro e w1 ⟨rfl, rfl⟩
      go_wp2_with fail
      go_loop [4, 5] (fun m i => m = .int .i64 2 ∧ i = .int .i64 0) (fun _ _ => 0)
      case atStart => exact ⟨rfl, rfl⟩
      case round =>
        obtain ⟨rfl, rfl⟩ := hrel
        go_wp2
        go_ret2
        exact ⟨rfl, rfl⟩
    · have HC := Lib.hid hc
      clear hc hel
      generalize hL : zs.length = len at *
      have HL := Lib.hid hL
      clear hL
      go_enter Try.func36, Try.ntmps36
      go_wp2_with fail
      refine c1.mono ?_
      rintro e w1 ⟨rfl, rfl⟩
      clear c1
      go_wp2_with fail
      go_loop [4, 5] (fun m i => ∃ k : Nat, k ≤ len ∧ i = .int .i64 k ∧ m = .int .i64 ((zs.take k).foldl min 2)) (fun _ i => len - (intOf i).toNat)
      case atStart => exact ⟨0, Nat.zero_le _, rfl, rfl⟩
      case round =>
        obtain ⟨k, hk, rfl, rfl⟩ := hrel
        by_cases hlt : k < len
        · have hck := HC.out k hlt
          have hs1 : (zs.take (k + 1)).foldl min 2 = min ((zs.take k).foldl min 2) (zs[k]?.getD 0) := foldl_take _ _ _ _ (by rw [HL.out]; exact hlt)
          have Hs1 := Lib.hid hs1
          clear hs1
          generalize (zs.take k).foldl min 2 = mn at Hs1 ⊢
          generalize zs[k]?.getD 0 = z at hck Hs1
          go_wp2
          all_goals
            refine ⟨⟨k + 1, by omega, rfl, ?_⟩, by simp [intOf]; omega⟩
            rw [Hs1.out]
        · obtain rfl : k = len := by omega
          have e1 : zs.take k = zs := List.take_of_length_le (by rw [HL.out]; omega)
          rw [e1]
          generalize hmn : zs.foldl min 2 = mn
          have Hmn := Lib.hid hmn
          clear hmn
          go_wp2
          go_ret2
          exact ⟨by simp [go_sem]; exact Hmn.out.symm, rfl⟩
  · rw [show allS zs = ⟨0, ansL zs⟩ from if_neg hz]
    clear hv
    generalize ansL zs = r at c1 hz ⊢
    go_enter Try.func36, Try.ntmps36
    go_wp2_with fail
    refine c1.mono ?_
    rintro e w1 ⟨rfl, rfl⟩
    go_wp2_with fail
    refine c1.mono ?_
    rintro e w2 ⟨rfl, rfl⟩
    go_wp2_with fail
    go_ret2
    exact ⟨rfl, rfl⟩

set_option maxHeartbeats 1000000 in
theorem any_any (zs : List Int) (v : Value) (w : World) (hv : SlA w v zs) :
    Calls Try.prog 37 #[v] w fun e w' => e = .returned (.tuple #[.int .i64 (anyS zs).v, .int .i64 (anyS zs).e]) ∧ w' = w := by
  have c1 := checkAnswers_any zs v w hv
  by_cases hz : ansL zs = 0
  · rw [show anyS zs = ⟨zs.foldl max 0, 0⟩ from if_pos hz]
    rw [hz] at c1
    obtain ⟨hlen, hel⟩ := ansL_short hz
    clear hz
    rcases hv with ⟨ad, cap, rfl, rfl⟩ | ⟨b, off, cap, rfl, hmax, hb, hc⟩
    · rw [show ([] : List Int).foldl max 0 = 0 from rfl]
      clear hel hlen
      go_enter Try.func37, Try.ntmps37
      go_wp2_with fail
      refine c1.mono ?_
      rintro e w1 ⟨rfl, rfl⟩
      go_wp2_with fail
      go_loop [5, 15] (fun m i => m = .int .i64 0 ∧ i = .int .i64 0) (fun _ _ => 0)
      case atStart => exact ⟨rfl, rfl⟩
      case round =>
        obtain ⟨rfl, rfl⟩ := hrel
        go_wp2
        go_ret2
        exact ⟨rfl, rfl⟩
    · have HC := Lib.hid hc
      clear hc hel
      generalize hL : zs.length = len at *
      have HL := Lib.hid hL
      clear hL
      go_enter Try.func37, Try.ntmps37
      go_wp2_with fail
      refine c1.mono ?_
      rintro e w1 ⟨rfl, rfl⟩
      clear c1
      go_wp2_with fail
      go_loop [5, 15] (fun m i => ∃ k : Nat, k ≤ len ∧ i = .int .i64 k ∧ m = .int .i64 ((zs.take k).foldl max 0)) (fun _ i => len - (intOf i).toNat)
      case atStart => exact ⟨0, Nat.zero_le _, rfl, rfl⟩
      case round =>
        obtain ⟨k, hk, rfl, rfl⟩ := hrel
        by_cases hlt : k < len
        · have hck := HC.out k hlt
          have hs1 : (zs.take (k + 1)).foldl max 0 = max ((zs.take k).foldl max 0) (zs[k]?.getD 0) := foldl_take _ _ _ _ (by rw [HL.out]; exact hlt)
          have Hs1 := Lib.hid hs1
          clear hs1
          generalize (zs.take k).foldl max 0 = mn at Hs1 ⊢
          generalize zs[k]?.getD 0 = z at hck Hs1
          go_wp2
          all_goals
            refine ⟨⟨k + 1, by omega, rfl, ?_⟩, by simp [intOf]; omega⟩
            rw [Hs1.out]
        · obtain rfl : k = len := by omega
          have e1 : zs.take k = zs := List.take_of_length_le (by rw [HL.out]; omega)
          rw [e1]
          generalize hmn : zs.foldl max 0 = mn
          have Hmn := Lib.hid hmn
          clear hmn
          go_wp2
          go_ret2
          exact ⟨by simp [go_sem]; exact Hmn.out.symm, rfl⟩
  · rw [show anyS zs = ⟨0, ansL zs⟩ from if_neg hz]
    clear hv
    generalize ansL zs = r at c1 hz ⊢
    go_enter Try.func37, Try.ntmps37
    go_wp2_with fail
    refine c1.mono ?_
    rintro e w1 ⟨rfl, rfl⟩
    go_wp2_with fail
    go_ret2
    exact ⟨rfl, rfl⟩

set_option maxHeartbeats 1000000 in
theorem rany_any (zs : List Int) (v : Value) (w : World) (hv : SlA w v zs) :
    Calls Try.prog 38 #[v] w fun e w' => e = .returned (.tuple #[.int .i64 (anyS zs).v, .int .i64 (anyS zs).e]) ∧ w' = w := by
  have c1 := answers_any zs v w hv
  by_cases hz : ansL zs = 0
  · rw [show anyS zs = ⟨zs.foldl max 0, 0⟩ from if_pos hz]
    rw [hz] at c1
    obtain ⟨hlen, hel⟩ := ansL_short hz
    clear hz
    rcases hv with ⟨ad, cap, rfl, rfl⟩ | ⟨b, off, cap, rfl, hmax, hb, hc⟩
    · rw [show ([] : List Int).foldl max 0 = 0 from rfl]
      clear hel hlen
      go_enter Try.func38, Try.ntmps38
      go_wp2_with fail
      refine c1.mono ?_
      rintro e w1 ⟨rfl, rfl⟩
      go_wp2_with fail
      go_loop [4, 5] (fun m i => m = .int .i64 0 ∧ i = .int .i64 0) (fun _ _ => 0)
      case atStart => exact ⟨rfl, rfl⟩
      case round =>
        obtain ⟨rfl, rfl⟩ := hrel
        go_wp2
        go_ret2
        exact ⟨rfl, rfl⟩
    · have HC := Lib.hid hc
      clear hc hel
      generalize hL : zs.length = len at *
      have HL := Lib.hid hL
      clear hL
      go_enter Try.func38, Try.ntmps38
      go_wp2_with fail
      refine c1.mono ?_
      rintro e w1 ⟨rfl, rfl⟩
      clear c1
      go_wp2_with fail
      go_loop [4, 5] (fun m i => ∃ k : Nat, k ≤ len ∧ i = .int .i64 k ∧ m = .int .i64 ((zs.take k).foldl max 0)) (fun _ i => len - (intOf i).toNat)
      case atStart => exact ⟨0, Nat.zero_le _, rfl, rfl⟩
      case round =>
        obtain ⟨k, hk, rfl, rfl⟩ := hrel
        by_cases hlt : k < len
        · have hck := HC.out k hlt
          have hs1 : (zs.take (k + 1)).foldl max 0 = max ((zs.take k).foldl max 0) (zs[k]?.getD 0) := foldl_take _ _ _ _ (by rw [HL.out]; exact hlt)
          have Hs1 := Lib.hid hs1
          clear hs1
          generalize (zs.take k).foldl max 0 = mn at Hs1 ⊢
          generalize zs[k]?.getD 0 = z at hck Hs1
          go_wp2
          all_goals
            refine ⟨⟨k + 1, by omega, rfl, ?_⟩, by simp [intOf]; omega⟩
            rw [Hs1.out]
        · obtain rfl : k = len := by omega
          have e1 : zs.take k = zs := List.take_of_length_le (by rw [HL.out]; omega)
          rw [e1]
          generalize hmn : zs.foldl max 0 = mn
          have Hmn := Lib.hid hmn
          clear hmn
          go_wp2
          go_ret2
          exact ⟨by simp [go_sem]; exact Hmn.out.symm, rfl⟩
  · rw [show anyS zs = ⟨0, ansL zs⟩ from if_neg hz]
    clear hv
    generalize ansL zs = r at c1 hz ⊢
    go_enter Try.func38, Try.ntmps38
    go_wp2_with fail
    refine c1.mono ?_
    rintro e w1 ⟨rfl, rfl⟩
    go_wp2_with fail
    refine c1.mono ?_
    rintro e w2 ⟨rfl, rfl⟩
    go_wp2_with fail
    go_ret2
    exact ⟨rfl, rfl⟩
end Go.Proofs.Ytamelpfhbnkggaa

/-
  Cables: the nodes that are lost.
-/
import Derived.Test.YtdohfpnnmppdkaaCbO
import Derived.Test.YtdohfpnnmppdkaaCbN
import Derived.Test.YtdohfpnnmppdkaaCbE
namespace Go.Proofs.Ytdohfpnnmppdkaa
open Go.RowKit Go.Shelf
set_option linter.unusedSimpArgs false
attribute [local go_sem] Oper.semAt_some
/-- between two visits: the set of the lost and its box -/
def LoJ (Bm M n₀ : Nat) (w : World) (S0 : Nat → Bool) (pre : List Nat) (W : World) : Prop :=
  W.heap[Bm]? = some (.cells #[.map (some M)] 142 (0, 0)) ∧ MapB W M (fun y => S0 y || decide (y ∈ pre)) ∧ Below n₀ w W ∧ n₀ ≤ W.heap.size
theorem LoJ.keep {Bm M n₀ : Nat} {w : World} {S0 : Nat → Bool} {pre : List Nat} {W W' : World} (h : LoJ Bm M n₀ w S0 pre W) (hb : Below W.heap.size W W') : LoJ Bm M n₀ w S0 pre W' := by
  obtain ⟨h1, h2, h3, h4⟩ := h
  exact ⟨(hb.block _ (Array.getElem?_eq_some_iff.1 h1).1).trans h1, h2.keep hb, h3.trans (hb.mono h4), Nat.le_trans h4 hb.size⟩
theorem LoJ.ext {Bm M n₀ : Nat} {w : World} {S S' : Nat → Bool} {l l' : List Nat} {W : World} (h : LoJ Bm M n₀ w S l W) (e : ∀ y, y < 60 → (S y || decide (y ∈ l)) = (S' y || decide (y ∈ l'))) : LoJ Bm M n₀ w S' l' W :=
  ⟨h.1, h.2.1.ext e, h.2.2.1, h.2.2.2⟩
set_option maxHeartbeats 2000000 in
theorem lost_visit (Bm M n₀ n₁ : Nat) (w : World) (S0 : Nat → Bool) (hne : Bm ≠ M) (hM : n₀ ≤ M) (hM1 : M < n₁) (pre : List Nat) (k : Nat) (W : World) (hk : k < 60) (hn1 : n₁ + 3 ≤ W.heap.size) (hJ : LoJ Bm M n₀ w S0 pre W) :
    Calls Try.prog 103 #[.int .i64 (k : Int), .pointer (some ⟨Bm, 0, none⟩)] W (VisP n₁ W (LoJ Bm M n₀ w S0) (pre ++ [k])) := by
  obtain ⟨j1, j2, j3, j4⟩ := hJ
  have b0 := cellHB j1 0
  obtain ⟨W', hrun, hm, hg⟩ := j2.put hk
  have HRES := Lib.hid (show LoJ Bm M n₀ w S0 (pre ++ [k]) W' ∧ Kept3 n₁ W W' from
    ⟨⟨(hg.block Bm (Array.getElem?_eq_some_iff.1 j1).1 (fun e => hne (Option.some.inj e))).trans j1, hm.ext (fun x hx => by simp [Bool.or_assoc, Bool.decide_or]), j3.grown hg j4 (fun r e => by cases e; exact hM), Nat.le_trans j4 hg.size⟩,
     fun b h1 h2 => hg.block b (by omega) (fun e => by have := Option.some.inj e; omega)⟩)
  unfold VisP
  clear j1 j2 j3 j4 hm hg
  go_enter Try.func103, Try.ntmps103
  go_wp2_with fail
  go_end0
  exact ⟨rfl, HRES.out.1, HRES.out.2⟩
/-- one fault more -/
def goneS (ns : List Nd) (zs : List Int) (S : Nat → Bool) (f : Nat) : Nat → Bool := if S f = true then S else fun y => S y || decide (y ∈ dfs (par ns) ns.length (cutN ns zs f))
def goneF (ns : List Nd) (zs fs : List Int) : Nat → Nat → Bool
  | 0 => fun _ => false
  | k + 1 => goneS ns zs (goneF ns zs fs k) (ti fs k).toNat
open Classical in
/-- the error of Lost -/
noncomputable def losE (sl sh : Int) (ns : List Nd) (fs zs : List Int) : Int :=
  if stuE sl sh ns zs = 0 then (if 60 < fs.length then 6 else if ∀ k, k < fs.length → 0 < ti fs k ∧ ti fs k < ns.length then 0 else 3) else stuE sl sh ns zs
open Classical in
theorem losE_def (sl sh : Int) (ns : List Nd) (fs zs : List Int) : losE sl sh ns fs zs = (if stuE sl sh ns zs = 0 then (if 60 < fs.length then 6 else if ∀ k, k < fs.length → 0 < ti fs k ∧ ti fs k < ns.length then 0 else 3) else stuE sl sh ns zs) := rfl
theorem losE_ok {sl sh : Int} {ns : List Nd} {fs zs : List Int} (h : losE sl sh ns fs zs = 0) : ValidC sl sh ns ∧ zs.length ≤ 16 ∧ (∀ k, k < zs.length → okS ns (ti zs k) = true) ∧ fs.length ≤ 60 ∧ ∀ k, k < fs.length → 0 < ti fs k ∧ ti fs k < ns.length := by
  rw [losE_def] at h
  split at h
  · rename_i h0
    obtain ⟨a, b, c⟩ := stuE_ok h0
    split at h
    · omega
    · split at h
      · exact ⟨a, b, c, by omega, by assumption⟩
      · omega
  · exact absurd h (by assumption)
/-- the nodes that are lost after the faults -/
def lostL (ns : List Nd) (zs fs : List Int) : List Nat := pick 60 (goneF ns zs fs fs.length)
def LosP (sl sh : Int) (ns : List Nd) (fs zs : List Int) (w : World) (e : Ending) (W' : World) : Prop :=
  ∃ v, e = .returned (.tuple #[v, .int .i64 (losE sl sh ns fs zs)]) ∧ (losE sl sh ns fs zs ≠ 0 → v = .slice none 0 0) ∧ (losE sl sh ns fs zs = 0 → W'.ownsRow w.heap.size 3 1 v (lostL ns zs fs).length (flatN (lostL ns zs fs))) ∧ Below w.heap.size w W'
set_option maxRecDepth 100000 in
set_option maxHeartbeats 16000000 in
theorem lost_any (sl sh : Int) (sv fv zv : Value) (ns : List Nd) (fs zs : List Int) (w : World) (hN : Nds w.heap.size w sv ns) (hF : Il w.heap.size w fv fs) (hZ : Il w.heap.size w zv zs) (hlf : fs.length ≤ 1000) (hlz : zs.length ≤ 1000) :
    Calls Try.prog 40 #[.agg #[.int .i64 sl, .int .i64 sh, sv], fv, zv] w (LosP sl sh ns fs zs w) := by
  have c1 := Lib.hid (fun W (h : Below w.heap.size w W) => checkStuck_any sl sh sv zv ns zs W (hN.at h) (hZ.at h) hlz)
  have HE := Lib.hid (losE_def sl sh ns fs zs)
  have HV := Lib.hid (fun (h : stuE sl sh ns zs = 0) => (stuE_ok h).1)
  obtain ⟨a, cap, rfl⟩ := hN.form
  have cC := Lib.hid (fun (hv : ValidC sl sh ns) W (h : Below w.heap.size w W) (k : Nat) (hk : k < ns.length) => cut_any sl sh _ zv ns zs hv.all hv.len k hk hlz W (hN.at h) (hZ.at h))
  have cD := Lib.hid (fun (hv : ValidC sl sh ns) (Bm M : Nat) (S0 : Nat → Bool) (W0 W : World) (h0 : Below w.heap.size w W0) (hne : Bm ≠ M) (hM : W0.heap.size ≤ M) (hM1 : M < W.heap.size) (k : Nat) (hk : k < ns.length) (hJ : LoJ Bm M W0.heap.size W0 S0 [] W) =>
    down_any sl sh a cap 103 #[.pointer (some ⟨Bm, 0, none⟩)] ns hv.all hv.len (enters_of Try.func103 (by kernel_rfl) rfl) k hk W (LoJ Bm M W0.heap.size W0 S0) (fun pre W W' h hb => h.keep hb)
      (fun pre W h => hN.mono (h0.trans (h.2.2.1.mono h0.size)) (Nat.le_trans h0.size h.2.2.2))
      (fun pre j W' hj hc hz h => lost_visit Bm M W0.heap.size W.heap.size W0 S0 hne hM hM1 pre j W' (by have := hv.len; omega) hz h) hJ)
  have HCN := Lib.hid (fun (hv : ValidC sl sh ns) (k : Nat) (hk : k < ns.length) => show cutN ns zs k < ns.length from cutF_lt ns zs (by omega) (fun x hx => hv.all.path_lt hk (List.mem_filter.1 hx).1))
  have HG0 := Lib.hid (show goneF ns zs fs 0 = fun _ => false from rfl)
  have HGY := Lib.hid (show ∀ k, goneF ns zs fs k (ti fs k).toNat = true → goneF ns zs fs (k + 1) = goneF ns zs fs k from fun k h => by
    show goneS ns zs (goneF ns zs fs k) (ti fs k).toNat = _
    unfold goneS; rw [if_pos h])
  have HGN := Lib.hid (show ∀ k, ¬ goneF ns zs fs k (ti fs k).toNat = true → ∀ Bm M n₀ w W, LoJ Bm M n₀ w (goneF ns zs fs k) (dfs (par ns) ns.length (cutN ns zs (ti fs k).toNat)) W → LoJ Bm M n₀ w (goneF ns zs fs (k + 1)) [] W from fun k h Bm M n₀ w W hj => hj.ext fun y hy => by
    show _ = (goneS ns zs (goneF ns zs fs k) (ti fs k).toNat y || _)
    unfold goneS; rw [if_neg h]; simp)
  have HROW := Lib.hid (show ∀ (W : World) (b n : Nat) (v : Value), W.ownsRow b 3 1 v n (flatN (pick 60 (goneF ns zs fs fs.length))) → n = (pick 60 (goneF ns zs fs fs.length)).length → w.heap.size ≤ b → W.ownsRow w.heap.size 3 1 v (lostL ns zs fs).length (flatN (lostL ns zs fs)) from fun W b n v h e hb => by subst e; exact own_base h hb)
  obtain ⟨az, cz, rfl⟩ := hZ.form
  obtain ⟨af, cf, rfl, -, hff⟩ := hF
  have HFC := Lib.hid (show ∀ W k, Below w.heap.size w W → k < fs.length → ∃ b off, af = some ⟨b, off, none⟩ ∧ b < w.heap.size ∧ W.cell? ⟨b, off + k, none⟩ = some (.int .i64 (ti fs k)) from fun W k hb hk => by
    obtain ⟨b, off, h1, h2, e0⟩ := hff k hk
    exact ⟨b, off, h1, h2, (hb.cell (p := ⟨b, _, none⟩) h2).trans e0⟩)
  have HLEN := Lib.hid (fun (hv : ValidC sl sh ns) => hv.len)
  unfold LosP
  clear hN hZ hff
  generalize losE sl sh ns fs zs = R at *
  generalize lostL ns zs fs = LL at *
  generalize stuE sl sh ns zs = E at *
  generalize ValidC sl sh ns = VC at *
  generalize goneF ns zs fs = GF at *
  generalize dfs (par ns) ns.length = DF at *
  generalize cutN ns zs = CN at *
  generalize hnn : ns.length = n at *
  clear hnn
  generalize hmm : fs.length = m at *
  clear hmm
  generalize zs.length = mz at *
  obtain ⟨A, hA⟩ : ∃ A, A = w.alloc (.cells #[.int .i64 sl, .int .i64 sh, .slice a n cap] 26) := ⟨_, rfl⟩
  have HBA := Lib.hid (show Below w.heap.size w A by rw [hA]; exact ((Below.refl _ _).alloc (Nat.le_refl _) _))
  have hltA : w.heap.size + 1 ≤ A.heap.size := by rw [hA]; simp
  have q0 : A.cell? ⟨w.heap.size, 0, none⟩ = some (.int .i64 sl) := by rw [hA]; exact (cellHB (World.alloc_heap_new w _) 0).trans (by simp)
  have q1 : A.cell? ⟨w.heap.size, 1, none⟩ = some (.int .i64 sh) := by rw [hA]; exact (cellHB (World.alloc_heap_new w _) 1).trans (by simp)
  have q2 : A.cell? ⟨w.heap.size, 2, none⟩ = some (.slice a n cap) := by rw [hA]; exact (cellHB (World.alloc_heap_new w _) 2).trans (by simp)
  have KK := Lib.hid (show ∀ W, Below A.heap.size A W → W.cell? ⟨w.heap.size, 0, none⟩ = some (.int .i64 sl) ∧ W.cell? ⟨w.heap.size, 1, none⟩ = some (.int .i64 sh) ∧ W.cell? ⟨w.heap.size, 2, none⟩ = some (.slice a n cap) from fun W h => ⟨(h.cell (p := ⟨w.heap.size, 0, none⟩) (by show w.heap.size < A.heap.size; omega)).trans q0, (h.cell (p := ⟨w.heap.size, 1, none⟩) (by show w.heap.size < A.heap.size; omega)).trans q1, (h.cell (p := ⟨w.heap.size, 2, none⟩) (by show w.heap.size < A.heap.size; omega)).trans q2⟩)
  have HLT := Lib.hid hltA
  clear hltA q0 q1 q2
  obtain ⟨k0, k1, k2⟩ := KK.out _ (Below.refl _ _)
  by_cases hE : E = 0
  rotate_left
  · have hR := HE.out
    rw [if_neg hE] at hR
    subst hR
    have hE' : (R == 0) = false := by simpa using hE
    go_enter Try.func40, Try.ntmps40
    go_upto_region 1 with fail
    rw [← hA]
    clear hA
    go_wp2_with fail
    refine (c1.out _ HBA.out).mono ?_
    rintro e w1 ⟨rfl, hb⟩
    have HB1 := Lib.hid hb
    clear hb k0 k1 k2
    obtain ⟨k0, k1, k2⟩ := KK.out _ HB1.out
    clear hE
    go_wp2_with fail
    go_ret2
    exact ⟨_, rfl, fun _ => rfl, fun h => absurd (h ▸ hE' : ((0 : Int) == 0) = false) (by decide), HBA.out.trans (HB1.out.mono HBA.out.size)⟩
  have hv := HV.out hE
  subst hE
  have hR := HE.out
  rw [if_pos rfl] at hR
  have HR := Lib.hid hR
  clear hR HE HV
  have hn := HLEN.out hv
  have cC' := Lib.hid (cC.out hv)
  have cD' := Lib.hid (cD.out hv)
  have HCN' := Lib.hid (HCN.out hv)
  clear cC cD HCN HLEN hv
  by_cases hbig : (60 : Int) < (m : Int)
  · have hR := HR.out
    rw [if_pos (by omega)] at hR
    subst hR
    go_enter Try.func40, Try.ntmps40
    go_upto_region 1 with fail
    rw [← hA]
    clear hA
    go_wp2_with fail
    refine (c1.out _ HBA.out).mono ?_
    rintro e w1 ⟨rfl, hb⟩
    have HB1 := Lib.hid hb
    clear hb k0 k1 k2
    obtain ⟨k0, k1, k2⟩ := KK.out _ HB1.out
    go_wp2_with fail
    go_ret2
    exact ⟨_, rfl, fun _ => rfl, fun h => absurd h (by decide), HBA.out.trans (HB1.out.mono HBA.out.size)⟩
  have hR := HR.out
  rw [if_neg (by omega)] at hR
  have HR2 := Lib.hid hR
  clear hR HR
  have cn := fun k W => isSegment_any sl sh a n cap (by omega) k W
  go_enter Try.func40, Try.ntmps40
  go_upto_region 1 with fail
  rw [← hA]
  clear hA
  go_wp2_with fail
  refine (c1.out _ HBA.out).mono ?_
  rintro e w1 ⟨rfl, hb⟩
  have HB1 := Lib.hid hb
  clear hb k0 k1 k2
  obtain ⟨k0, k1, k2⟩ := KK.out _ HB1.out
  go_wp2_with fail
  go_loopw [10, 25] (fun (_ : Value) iv wr => ∃ k : Nat, k ≤ m ∧ iv = .int .i64 k ∧ (∀ j, j < k → 0 < ti fs j ∧ ti fs j < n) ∧ Below A.heap.size A wr) (fun _ iv _ => m - (intOf iv).toNat)
  case atStart => exact ⟨0, Nat.zero_le _, rfl, fun j hj => absurd hj (Nat.not_lt_zero _), HB1.out⟩
  case round =>
    obtain ⟨k, hk, rfl, hvv, hB⟩ := hrel
    have HV := Lib.hid hvv
    have HB := Lib.hid hB
    clear hvv hB k0 k1 k2
    obtain ⟨k0, k1, k2⟩ := KK.out _ HB.out
    by_cases hlt : k < m
    · have hki : (k : Int) < (m : Int) := by omega
      obtain ⟨b, off, hab, hb, z0⟩ := HFC.out _ k (HBA.out.trans (HB.out.mono HBA.out.size)) hlt
      subst hab
      by_cases hz : 0 < ti fs k ∧ ti fs k < n
      · have HNX := Lib.hid (show ∀ j, j < k + 1 → 0 < ti fs j ∧ ti fs j < n from fun j hj => by
          rcases (show j < k ∨ j = k by omega) with h | h
          · exact HV.out j h
          · rw [h]; exact hz)
        have c2 := fun W => cn (ti fs k) W
        rw [decide_eq_true hz] at c2
        generalize ti fs k = z at *
        clear hz
        go_wp2_with fail
        refine (c2 _).mono ?_
        rintro e w2 ⟨rfl, hb2⟩
        have HB2 := Lib.hid (HB.out.trans (hb2.mono HB.out.size))
        clear hb2 z0 k0 k1 k2
        go_wp2_with fail
        go_roundw
        case rel => exact ⟨k + 1, by omega, by go_num, HNX.out, HB2.out⟩
        case measure => simp [intOf]; omega
      · have hR := HR2.out
        rw [if_neg (fun g => hz (g k hlt))] at hR
        subst hR
        have c2 := fun W => cn (ti fs k) W
        rw [decide_eq_false hz] at c2
        generalize ti fs k = z at *
        clear hz
        go_wp2_with fail
        refine (c2 _).mono ?_
        rintro e w2 ⟨rfl, hb2⟩
        have HB2 := Lib.hid (HB.out.trans (hb2.mono HB.out.size))
        clear hb2 z0 k0 k1 k2
        go_wp2_with fail
        go_ret2
        exact ⟨_, rfl, fun _ => rfl, fun h => absurd h (by decide), HBA.out.trans (HB2.out.mono HBA.out.size)⟩
    · obtain rfl : k = m := by omega
      have hR := HR2.out
      rw [if_pos HV.out] at hR
      subst hR
      obtain ⟨W0, rfl⟩ : ∃ W0, W0 = wr := ⟨_, rfl⟩
      have HBw := Lib.hid (HBA.out.trans (HB.out.mono HBA.out.size))
      obtain ⟨V, hV⟩ : ∃ V, V = (W0.alloc (.map #[] 0)).alloc (.cells #[.map (some W0.heap.size)] 142) := ⟨_, rfl⟩
      have hz1 : (W0.alloc (.map #[] 0)).heap.size = W0.heap.size + 1 := by simp
      have hV1 : V.heap[W0.heap.size + 1]? = some (.cells #[.map (some W0.heap.size)] 142 (0, 0)) := by
        rw [hV]
        have q := World.alloc_heap_new (W0.alloc (.map #[] 0)) (.cells #[.map (some W0.heap.size)] 142)
        rwa [hz1] at q
      have hV0 : MapB V W0.heap.size (fun _ => false) := by
        rw [hV]
        refine (mapB_made W0).same ?_
        exact Below.heap_alloc _ _ _ (by simp)
      have hbV : Below W0.heap.size W0 V := by
        rw [hV]; exact ((Below.refl _ _).alloc (Nat.le_refl _) _).alloc (by simp) _
      have HJ0 := Lib.hid (show LoJ (W0.heap.size + 1) W0.heap.size W0.heap.size W0 (GF 0) [] V from ⟨hV1, hV0.ext fun y _ => by rw [HG0.out]; simp, hbV, hbV.size⟩)
      clear hV0 hV1 hz1 hbV
      have hmm := @run_makeMap Try.prog
      go_upto_region 13 with fail
      clear hmm
      rw [← hV]
      clear hV
      have HDD := Lib.hid (fun S W k hk hM1 hJ => cD'.out (W0.heap.size + 1) W0.heap.size S W0 W HBw.out (by omega) (Nat.le_refl _) hM1 k hk hJ)
      have HBJ := Lib.hid (show ∀ S l W, LoJ (W0.heap.size + 1) W0.heap.size W0.heap.size W0 S l W → Below A.heap.size A W from fun S l W h => HB.out.trans (h.2.2.1.mono HB.out.size))
      have hMB : W0.heap.size + 1 < V.heap.size := (Array.getElem?_eq_some_iff.1 HJ0.out.1).1
      clear cD' HG0 k0 k1 k2
      generalize hM : W0.heap.size = M at *
      go_wp2_with fail
      go_loopw [13, 37] (fun (_ : Value) iv W => ∃ i : Nat, i ≤ k ∧ iv = .int .i64 i ∧ LoJ (M + 1) M M W0 (GF i) [] W) (fun _ iv _ => k - (intOf iv).toNat)
      case atStart => exact ⟨0, Nat.zero_le _, rfl, HJ0.out⟩
      case round =>
        obtain ⟨i, hi, rfl, hj⟩ := hrel
        have HJ := Lib.hid hj
        clear hj
        obtain ⟨k0, k1, k2⟩ := KK.out _ (HBJ.out _ _ _ HJ.out)
        have b0 := cellHB HJ.out.1 0
        by_cases hlt : i < k
        · have hki : (i : Int) < (k : Int) := by omega
          obtain ⟨b, off, hab, hb, z0⟩ := HFC.out _ i (HBA.out.trans ((HBJ.out _ _ _ HJ.out).mono HBA.out.size)) hlt
          subst hab
          have hsg := HV.out i hlt
          have hgy := HGY.out i
          have hgn := HGN.out i
          obtain ⟨f, hf⟩ : ∃ f : Nat, ti fs i = (f : Int) := ⟨(ti fs i).toNat, by omega⟩
          rw [hf] at hsg hgy hgn z0
          simp only [Int.toNat_natCast] at hgy hgn
          have hfn : f < n := by omega
          have hlk := HJ.out.2.1.look (x := f) (by omega)
          rw [show (GF i f || decide (f ∈ ([] : List Nat))) = GF i f by simp] at hlk
          by_cases hG : GF i f = true
          · rw [hG] at hlk
            have HX := Lib.hid (show LoJ (M + 1) M M W0 (GF (i + 1)) [] wr by rw [hgy hG]; exact HJ.out)
            go_wp2_with fail
            go_roundw
            case rel => exact ⟨i + 1, by omega, by go_num, HX.out⟩
            case measure => simp [intOf]; omega
          · have hG' : GF i f = false := by simpa using hG
            rw [hG'] at hlk
            have HX := Lib.hid (hgn hG)
            have hBW := HBJ.out _ _ _ HJ.out
            have c2 := Lib.hid (fun W h => cC'.out W h f hfn)
            have hcn := HCN'.out f hfn
            clear hgy hgn hG hG' hsg
            go_upto_region 17 with fail
            clear hlk z0
            refine wp_region_held_drew (S := fun w' => w'.cell? ⟨w.heap.size, 0, none⟩ = some (Value.int .i64 sl) ∧ w'.cell? ⟨w.heap.size, 1, none⟩ = some (Value.int .i64 sh) ∧ w'.cell? ⟨w.heap.size, 2, none⟩ = some (Value.slice a n cap)) (by kernel_rfl) ⟨by simpa [go_sem] using k0, by simpa [go_sem] using k1, by simpa [go_sem] using k2⟩ (fun hHeld => ?_)
            have HD := Lib.hid (show Below wr.heap.size wr _ from (Below.refl wr.heap.size wr).drew)
            clear k0 k1 k2
            refine wpAnyH_take (i := 0) (oi := _) (v := Value.agg #[Value.int .i64 sl, Value.int .i64 sh, Value.slice a n cap]) rfl (by kernel_rfl) (by kernel_rfl) (by kernel_rfl) (fun _ _ _ h => h) (Or.inl ⟨by rfl, fun w' hSw => ?_⟩) hHeld ?_
            · obtain ⟨t0, t1, t2⟩ := hSw
              go_simp
              try simp [*]
              try (intro hh; exfalso; omega)
              try omega
            try simp only [Act.put, List.setIfInBounds_toArray, List.set_cons_zero, List.set_cons_succ, List.getElem_toArray, List.getElem_cons_succ, List.getElem_cons_zero]
            refine wpAnyH_take (i := 1) (oi := _) (v := Value.agg #[Value.int .i64 sl, Value.int .i64 sh, Value.slice a n cap]) rfl (by kernel_rfl) (by kernel_rfl) (by kernel_rfl) (fun _ _ _ h => h) (Or.inl ⟨by rfl, fun w' hSw => ?_⟩) hHeld ?_
            · obtain ⟨t0, t1, t2⟩ := hSw
              go_simp
              try simp [*]
              try (intro hh; exfalso; omega)
              try omega
            try simp only [Act.put, List.setIfInBounds_toArray, List.set_cons_zero, List.set_cons_succ, List.getElem_toArray, List.getElem_cons_succ, List.getElem_cons_zero]
            refine wpAnyH_take (i := 2) (oi := _) (v := Value.int .i64 (f : Int)) rfl (by kernel_rfl) (by kernel_rfl) (by kernel_rfl) (fun _ _ _ h => h) (Or.inl ⟨by rfl, fun w' hSw => ?_⟩) hHeld ?_
            · obtain ⟨t0, t1, t2⟩ := hSw
              go_simp
              try simp [*]
              try (intro hh; exfalso; omega)
              try omega
            try simp only [Act.put, List.setIfInBounds_toArray, List.set_cons_zero, List.set_cons_succ, List.getElem_toArray, List.getElem_cons_succ, List.getElem_cons_zero]
            refine wpAnyH_take (i := 3) (oi := _) (v := Value.slice az mz cz) rfl (by kernel_rfl) (by kernel_rfl) (by kernel_rfl) (fun _ _ _ h => h) (Or.inl ⟨by rfl, fun w' hSw => ?_⟩) hHeld ?_
            · obtain ⟨t0, t1, t2⟩ := hSw
              go_simp
              try simp [*]
              try (intro hh; exfalso; omega)
              try omega
            try simp only [Act.put, List.setIfInBounds_toArray, List.set_cons_zero, List.set_cons_succ, List.getElem_toArray, List.getElem_cons_succ, List.getElem_cons_zero]
            refine wpAnyH_take (i := 5) (oi := _) (v := Value.func (.func 103) #[] #[.pointer (some ⟨M + 1, 0, none⟩)]) rfl (by kernel_rfl) (by kernel_rfl) (by kernel_rfl) (fun _ _ _ h => h) (Or.inl ⟨by rfl, fun w' hSw => ?_⟩) hHeld ?_
            · obtain ⟨t0, t1, t2⟩ := hSw
              go_simp
              try simp [*]
              try (intro hh; exfalso; omega)
              try omega
            try simp only [Act.put, List.setIfInBounds_toArray, List.set_cons_zero, List.set_cons_succ, List.getElem_toArray, List.getElem_cons_succ, List.getElem_cons_zero]
            refine wpAnyH_ready (rs := [4]) (by kernel_rfl) (by simp) ?_
            refine AllReadyH.cons (o := _) rfl (fun K hK => ?_) AllReadyH.nil
            go_simp
            go_at_call 100
            refine Calls.mono (c2.out _ (HBA.out.trans ((hBW.trans (HD.out.mono hBW.size)).mono HBA.out.size))) ?_
            rintro e v1w ⟨rfl, hb⟩
            have HD1 := Lib.hid (HD.out.trans (hb.mono HD.out.size))
            clear hb
            clear hHeld
            refine hK.out _ _ (KK.out _ (hBW.trans (HD1.out.mono hBW.size))) (fun hHeld => ?_)
            clear hK K
            try simp only [Act.put, List.setIfInBounds_toArray, List.set_cons_zero, List.set_cons_succ, List.getElem_toArray, List.getElem_cons_succ, List.getElem_cons_zero]
            have HJ1 := Lib.hid (HJ.out.keep HD1.out)
            have Q := Lib.hid (HDD.out (GF i) _ (CN f) hcn (Nat.lt_of_lt_of_le (Nat.lt_of_succ_lt (Array.getElem?_eq_some_iff.1 HJ.out.1).1) HD1.out.size) HJ1.out)
            refine wpAnyH_ready (rs := [6]) (by kernel_rfl) (by simp) ?_
            refine AllReadyH.cons (o := _) rfl (fun K hK => ?_) AllReadyH.nil
            go_simp
            go_at_call 83
            refine Calls.mono Q.out ?_
            rintro e v2w ⟨rfl, hj⟩
            have HJ2 := Lib.hid hj
            clear hj
            clear hHeld
            refine hK.out _ _ (KK.out _ (HBJ.out _ _ _ HJ2.out)) (fun hHeld => ?_)
            clear hK K
            try simp only [Act.put, List.setIfInBounds_toArray, List.set_cons_zero, List.set_cons_succ, List.getElem_toArray, List.getElem_cons_succ, List.getElem_cons_zero]
            refine wpAnyH_done (by kernel_rfl) ?_ _
            clear hHeld
            go_wp2_with fail
            go_roundw
            case rel => exact ⟨i + 1, by omega, by go_num, HX.out _ _ _ _ _ HJ2.out⟩
            case measure => simp [intOf]; omega
        · obtain rfl : i = k := by omega
          have hMj : MapB wr M (GF i) := HJ.out.2.1.ext fun y _ => by simp
          obtain ⟨Z, hZ⟩ : ∃ Z, Z = wr.alloc (.cells #[.map (some M)] 142) := ⟨_, rfl⟩
          have hbZ : Below wr.heap.size wr Z := by rw [hZ]; exact (Below.refl _ _).alloc (Nat.le_refl _) _
          have hZc : Z.cell? ⟨wr.heap.size, 0, none⟩ = some (.map (some M)) := cellHB (show Z.heap[wr.heap.size]? = some (.cells #[.map (some M)] 142 (0, 0)) by rw [hZ]; exact World.alloc_heap_new _ _) 0
          have HS := Lib.hid (sorted_any M wr.heap.size (GF i) Z (hMj.keep hbZ) hZc)
          have HBZ := Lib.hid (HBA.out.trans (((HBJ.out _ _ _ HJ.out).trans (hbZ.mono (HBJ.out _ _ _ HJ.out).size)).mono HBA.out.size))
          have cK := keys_any (some M) wr
          rw [← hZ] at cK
          clear hMj hbZ hZc k0 k1 k2 hZ
          go_wp2_with fail
          refine cK.mono ?_
          rintro e Z2 ⟨rfl, rfl⟩
          clear b0 cK
          go_wp2_with fail
          refine HS.out.mono ?_
          rintro e Z3 ⟨v, rfl, hrow, hb3⟩
          have HR := Lib.hid (HROW.out _ _ _ _ hrow rfl HBZ.out.size)
          have HBL := Lib.hid (HBZ.out.trans (hb3.mono HBZ.out.size))
          clear hrow hb3
          go_wp2_with fail
          go_ret2
          exact ⟨_, rfl, HR.out, HBL.out⟩
end Go.Proofs.Ytdohfpnnmppdkaa

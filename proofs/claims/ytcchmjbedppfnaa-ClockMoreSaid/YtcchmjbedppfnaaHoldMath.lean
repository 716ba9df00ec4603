/-
  Clock: the mathematics of ClockHolds and ClockTree: an offset that changes no faster than the rate lies in all spans.
-/
import Derived.Test.YtcchmjbedppfnaaMoreRow
import Derived.Test.YtcchmjbedppfnaaLawSlow
import Derived.Test.YtcchmjbedppfnaaOrdMath
namespace Go.Proofs.Ytcchmjbedppfnaa
open Go.RowKit Go.Shelf
theorem wrapI_id {x : Int} (h : wrap64 x = x) : IntKind.i64.wrap x = x := by
  rw [IntKind.wrap_i64]
  unfold wrap64 at h
  omega
/-- how many readings of a part lie before a reading -/
def dst (a : Int) (k : Nat) : Int := min 1000000 (max 0 (a - (k : Int) * 1000000))
def slp (r s : Int) : Int := (r * s).tdiv 128
def offTo (r a : Int) (sl : List Int) : Nat → Int
  | 0 => 0
  | k + 1 => offTo r a sl k + dst a k * slp r (tt sl k)
def dsm (a : Int) : Nat → Int
  | 0 => 0
  | k + 1 => dsm a k + dst a k
/-- the true offset at a reading, in milliardths -/
def truO (st r : Int) (sl : List Int) (a : Int) : Int := st * 1000000000 + offTo r a sl (min sl.length 20)
theorem dsm_eq (a : Int) : ∀ k : Nat, dsm a k = min (max 0 a) ((k : Int) * 1000000)
  | 0 => by unfold dsm; omega
  | k + 1 => by unfold dsm; rw [dsm_eq a k]; unfold dst; push_cast; omega
theorem slp_bd {r s : Int} (hr : 0 ≤ r) (hs : -128 ≤ s ∧ s ≤ 128) : -r ≤ slp r s ∧ slp r s ≤ r := by
  have h1 : r * s ≤ r * 128 := Int.mul_le_mul_of_nonneg_left hs.2 hr
  have h2 : r * (-128) ≤ r * s := Int.mul_le_mul_of_nonneg_left hs.1 hr
  unfold slp
  generalize r * s = q at *
  by_cases h : 0 ≤ q
  · rw [Int.tdiv_eq_ediv_of_nonneg h]; omega
  · have e : q.tdiv 128 = -((-q).tdiv 128) := by rw [Int.neg_tdiv, Int.neg_neg]
    rw [e, Int.tdiv_eq_ediv_of_nonneg (by omega)]
    omega
/-- slopes are small -/
def Slow (sl : List Int) : Prop := ∀ k, -128 ≤ tt sl k ∧ tt sl k ≤ 128
theorem mul_in {r s d : Int} (hs : -r ≤ s ∧ s ≤ r) (hd : 0 ≤ d) : -(r * d) ≤ d * s ∧ d * s ≤ r * d := by
  have h1 := Int.mul_le_mul_of_nonneg_left hs.1 hd
  have h2 := Int.mul_le_mul_of_nonneg_left hs.2 hd
  rw [Int.mul_neg, Int.mul_comm d r] at h1
  rw [Int.mul_comm d r] at h2
  exact ⟨h1, h2⟩
theorem dst_mono {a b : Int} (h : a ≤ b) (k : Nat) : 0 ≤ dst b k - dst a k := by unfold dst; omega
theorem dst_nn (a : Int) (k : Nat) : 0 ≤ dst a k := by unfold dst; omega
theorem dst_le (a : Int) (k : Nat) : dst a k ≤ 1000000 := by unfold dst; omega
theorem offTo_lip {r a b : Int} {sl : List Int} (hr : 0 ≤ r) (hs : Slow sl) (h : a ≤ b) : ∀ k, -(r * (dsm b k - dsm a k)) ≤ offTo r b sl k - offTo r a sl k ∧ offTo r b sl k - offTo r a sl k ≤ r * (dsm b k - dsm a k)
  | 0 => by simp [offTo, dsm]
  | k + 1 => by
    have ih := offTo_lip hr hs h k
    have q := mul_in (slp_bd hr (hs k)) (dst_mono h k)
    unfold offTo dsm
    have e1 : r * (dsm b k + dst b k - (dsm a k + dst a k)) = r * (dsm b k - dsm a k) + r * (dst b k - dst a k) := by rw [← Int.mul_add]; congr 1; omega
    have e2 : (dst b k - dst a k) * slp r (tt sl k) = dst b k * slp r (tt sl k) - dst a k * slp r (tt sl k) := Int.sub_mul _ _ _
    rw [e1]
    rw [e2] at q
    omega
theorem offTo_bd {r a : Int} {sl : List Int} (hr : 0 ≤ r ∧ r ≤ 1000000) (hs : Slow sl) : ∀ k : Nat, -((k : Int) * 1000000000000) ≤ offTo r a sl k ∧ offTo r a sl k ≤ (k : Int) * 1000000000000
  | 0 => by simp [offTo]
  | k + 1 => by
    have ih := offTo_bd (a := a) hr hs k
    have q := mul_in (slp_bd hr.1 (hs k)) (dst_nn a k)
    have q2 : r * dst a k ≤ 1000000 * dst a k := Int.mul_le_mul_of_nonneg_right hr.2 (dst_nn a k)
    have q3 := dst_le a k
    unfold offTo
    push_cast
    omega
/-- changes no faster than a rate -/
def Lip (r : Int) (O : Int → Int) : Prop := ∀ a b, a ≤ b → -(r * (b - a)) ≤ O b - O a ∧ O b - O a ≤ r * (b - a)
theorem truO_lip {st r : Int} {sl : List Int} (hr : 0 ≤ r) (hs : Slow sl) : Lip r (truO st r sl) := by
  intro a b h
  have q := offTo_lip hr hs h (min sl.length 20)
  have e1 := dsm_eq a (min sl.length 20)
  have e2 := dsm_eq b (min sl.length 20)
  have q2 : r * (dsm b (min sl.length 20) - dsm a (min sl.length 20)) ≤ r * (b - a) := Int.mul_le_mul_of_nonneg_left (by rw [e1, e2]; omega) hr
  unfold truO
  omega
theorem truO_bd {st r a : Int} {sl : List Int} (hr : 0 ≤ r ∧ r ≤ 1000000) (hs : Slow sl) (hst : -2147483648 ≤ st ∧ st ≤ 2147483647) : -2147503648000000000 ≤ truO st r sl a ∧ truO st r sl a ≤ 2147503648000000000 := by
  have q := offTo_bd (a := a) hr hs (min sl.length 20)
  unfold truO
  generalize offTo r a sl (min sl.length 20) = x at *
  omega
def dnG (n : Int) : Int := n / 1000000000
def upG (n : Int) : Int := -((-n) / 1000000000)
/-- a talk -/
structure Tk where
  se : Int
  go : Int
  fo : Int
  ho : Int
  w0 : Int
  w1 : Int
  w2 : Int
  w3 : Int
deriving Inhabited
structure Tk.Ok (k : Tk) : Prop where
  se : 0 ≤ k.se ∧ k.se ≤ 4294967295
  go : 0 ≤ k.go ∧ k.go ≤ 65535
  fo : 0 ≤ k.fo ∧ k.fo ≤ 65535
  ho : 0 ≤ k.ho ∧ k.ho ≤ 65535
  w0 : 0 ≤ k.w0 ∧ k.w0 ≤ 65535
  w1 : 0 ≤ k.w1 ∧ k.w1 ≤ 65535
  w2 : 0 ≤ k.w2 ∧ k.w2 ≤ 65535
  w3 : 0 ≤ k.w3 ∧ k.w3 ≤ 65535
def sentS (k : Tk) : Int := k.se % 15000000
/-- the exchange of a talk -/
def exS (O : Int → Int) (k : Tk) : Xc :=
  ⟨sentS k, upG (sentS k * 1000000000 + O (sentS k)) + k.fo, dnG ((sentS k + k.go) * 1000000000 + O (sentS k + k.go)) - k.ho, sentS k + k.go,
   max 0 (k.fo - k.w0), k.fo + 1 + k.w1, max 0 (k.ho - k.w2), k.ho + 1 + k.w3⟩
/-- an exchange whose offset has the true one -/
def InX (r : Int) (O : Int → Int) (x : Xc) : Prop := offL r x * 1000000000 ≤ O x.ba ∧ O x.ba ≤ offH r x * 1000000000
theorem grw_G (r d : Int) : r * d ≤ grw r d * 1000000000 := by
  rw [grw_ceil]
  generalize r * d = q
  omega
theorem ex_in {r : Int} {O : Int → Int} (hL : Lip r O) {k : Tk} (hk : k.Ok) : InX r O (exS O k) := by
  have hse : 0 ≤ sentS k := by unfold sentS; have := hk.se; omega
  have hg := hk.go
  have l := hL (sentS k) (sentS k + k.go) (by omega)
  have g := grw_G r (sentS k + k.go - sentS k)
  have h1 := hk.fo
  have h2 := hk.ho
  have h3 := hk.w0
  have h4 := hk.w1
  have h5 := hk.w2
  have h6 := hk.w3
  unfold InX offL offH exS upG dnG
  dsimp only
  generalize sentS k = s at *
  generalize hb : s + k.go = b at *
  generalize r * (b - s) = P at *
  generalize grw r (b - s) = g at *
  generalize O s = Os at *
  generalize O b = Ob at *
  omega
theorem bnd_in {r t : Int} {O : Int → Int} (hL : Lip r O) {x : Xc} (hx : InX r O x) : (bnd r t (ofX r x)).1 * 1000000000 ≤ O t ∧ O t ≤ (bnd r t (ofX r x)).2 * 1000000000 := by
  unfold InX at hx
  unfold bnd ofX
  dsimp only
  have g := grw_G r (gap t x.ba)
  have l : -(r * gap t x.ba) ≤ O t - O x.ba ∧ O t - O x.ba ≤ r * gap t x.ba := by
    by_cases h : x.ba ≤ t
    · have q := hL _ _ h
      rw [gap_le h]; exact q
    · have q := hL t x.ba (by omega)
      rw [gap_comm, gap_le (by omega)]
      omega
  generalize r * gap t x.ba = P at *
  generalize grw r (gap t x.ba) = g at *
  omega
theorem meets_in {n : Int} : ∀ (ys : List (Int × Int)) (f : Int × Int), (f.1 * 1000000000 ≤ n ∧ n ≤ f.2 * 1000000000) → (∀ y ∈ ys, y.1 * 1000000000 ≤ n ∧ n ≤ y.2 * 1000000000) → (meets f ys).1 * 1000000000 ≤ n ∧ n ≤ (meets f ys).2 * 1000000000
  | [], f, h, _ => h
  | y :: ys, f, h, hy => by
    have q := hy y (by simp)
    refine meets_in ys (meetS f y) ?_ (fun z hz => hy z (by simp [hz]))
    unfold meetS
    dsimp only
    omega
theorem at_in {r t : Int} {xs : List Xc} {O : Int → Int} (hL : Lip r O) (hx : ∀ x ∈ xs, InX r O x) (hO : -9000000000000000000 ≤ O t ∧ O t ≤ 9000000000000000000) : (atS r t (ofA r xs)).1 * 1000000000 ≤ O t ∧ O t ≤ (atS r t (ofA r xs)).2 * 1000000000 := by
  rw [ofA_map]
  unfold atS
  refine meets_in _ _ (by dsimp only; omega) ?_
  intro y hy
  rw [List.map_map, List.mem_map] at hy
  obtain ⟨x, hxm, rfl⟩ := hy
  exact bnd_in hL (hx x hxm)
theorem xc_mem {xs : List Xc} {k : Nat} (h : k < xs.length) : xc xs k ∈ xs := by
  unfold xc
  rw [List.getElem?_eq_getElem h, Option.getD_some]
  exact List.getElem_mem h
open Classical in
theorem sd_in {p r : Int} {xs : List Xc} {O : Int → Int} (h0 : lrnE p r xs = 0) (hL : Lip r O) (hx : ∀ x ∈ xs, InX r O x) : sdB r (ofA r xs) = true := by
  have hlen : (ofA r xs).length = xs.length := ofTo_len r xs xs.length
  refine decide_eq_true fun i k hik hk => ?_
  have hkl : k < xs.length := by omega
  have hil : i < xs.length := by omega
  refine (cd_iff (valid_of h0) (show i < (ofA r xs).length by omega) hk).2 ?_
  rw [ofTo_get r xs _ k hkl, ofTo_get r xs _ i hil]
  have q1 := bnd_in (t := (xc xs k).ba) hL (hx _ (xc_mem hil))
  have q2 := hx _ (xc_mem hkl)
  unfold InX at q2
  unfold bnd ofX at q1
  unfold ofX
  dsimp only at *
  omega
/-- the numbers of an answer of Time are not far from those of the truth -/
theorem at_far {p r t : Int} {xs : List Xc} (h0 : lrnE p r xs = 0) (ht : -4503599627370496 ≤ t ∧ t ≤ 4503599627370496) : (-10000000000000 ≤ (atS r t (ofA r xs)).1 ∧ (atS r t (ofA r xs)).1 ≤ 10000000000000) ∧ (-10000000000000 ≤ (atS r t (ofA r xs)).2 ∧ (atS r t (ofA r xs)).2 ≤ 10000000000000) :=
  atS_bd (valid_of h0) (by have := (lrnE_ok h0).1.1; show 1 ≤ (ofTo r xs xs.length).length; rw [ofTo_len]; exact this) ht
theorem at_near {p r t : Int} {xs : List Xc} (h0 : lrnE p r xs = 0) (hb : ∀ x ∈ xs, 0 ≤ x.ba ∧ x.ba ≤ 20000000) (ht : -10000000000 ≤ t ∧ t ≤ 10000000000) : -2000000000 ≤ (atS r t (ofA r xs)).1 ∧ (atS r t (ofA r xs)).2 ≤ 2000000000 := by
  have hr := (rtB_iff r).1 (lrnE_ok h0).2.2.1
  have hl := (lrnE_ok h0).1.1
  have hm : xc xs 0 ∈ xs := xc_mem (by omega)
  have q := (okX_get ((lrnE_ok h0).2.2.2 0 (by omega))).2.1
  have q2 := (vB_iff _ _).1 q
  have hba := hb _ hm
  have key : ∀ (ys : List (Int × Int)) (f : Int × Int) (y : Int × Int), (y ∈ ys ∨ (y.1 ≤ f.1 ∧ f.2 ≤ y.2)) → y.1 ≤ (meets f ys).1 ∧ (meets f ys).2 ≤ y.2 := by
    intro ys
    induction ys with
    | nil => intro f y h; rcases h with h | h; cases h; exact h
    | cons z ys ih =>
      intro f y h
      refine ih (meetS f z) y ?_
      rcases h with h | h
      · rcases List.mem_cons.1 h with rfl | h
        · right; unfold meetS; dsimp only; omega
        · exact .inl h
      · right; unfold meetS; dsimp only; omega
  have hg : grw r (gap t (xc xs 0).ba) ≤ 10021000 := by
    have e := grw_ceil r (gap t (xc xs 0).ba)
    have m1 : r * gap t (xc xs 0).ba ≤ 1000000 * gap t (xc xs 0).ba := Int.mul_le_mul_of_nonneg_right hr.2 (gap_nn _ _)
    have m2 : gap t (xc xs 0).ba ≤ 10020000000 := by unfold gap; omega
    rw [e]
    omega
  have w := key (((ofA r xs)).map (bnd r t)) (-9223372036854775808, 9223372036854775807) (bnd r t (ofX r (xc xs 0))) (.inl (by rw [ofA_map, List.map_map]; exact List.mem_map.2 ⟨_, hm, rfl⟩))
  unfold atS
  unfold bnd ofX at w
  dsimp only at w
  unfold bnd
  omega
theorem jn_two {r s : Int} {xs ys : List Xc} : jnB (([⟨-1, r, xs⟩, ⟨0, s, ys⟩] : List Cl).map knC) = true := by rfl
theorem ent_two {p q r s : Int} {xs ys : List Xc} (h0 : lrnE p r xs = 0) (h1 : lrnE q s ys = 0) (hs : sdB r (ofA r xs) = true) (ht : sdB s (ofA s ys) = true) (hq : q = 0) : entE [⟨-1, r, xs⟩, ⟨0, s, ys⟩] = 0 := by
  subst hq
  have e1 : fstE [⟨-1, r, xs⟩, ⟨0, s, ys⟩] = 0 := fstE_ok fun j hj => by
    have hj2 : j < 2 := hj
    rcases (show j = 0 ∨ j = 1 by omega) with rfl | rfl
    · exact lrn_root h0
    · exact h1
  have h3 : shB (([⟨-1, r, xs⟩, ⟨0, s, ys⟩] : List Cl).map knC) = true := by
    refine shB_ok fun k hk => ?_
    have hk2 : k < 2 := hk
    rcases (show k = 0 ∨ k = 1 by omega) with rfl | rfl
    · exact hs
    · exact ht
  unfold entE
  rw [if_neg (by simp), if_neg (by simp), if_neg (by rw [e1]; decide), if_neg (by rw [jn_two]; decide), if_neg (by rw [h3]; decide)]
theorem time_two {p q r s t : Int} {xs ys : List Xc} (h0 : lrnE p r xs = 0) (h1 : lrnE q s ys = 0) (hs : sdB r (ofA r xs) = true) (ht : sdB s (ofA s ys) = true) (hq : q = 0) (htt : 0 ≤ t ∧ t ≤ 1125899906842624) :
    timeR [⟨-1, r, xs⟩, ⟨0, s, ys⟩] 1 t = ⟨(upS r (ofA r xs) (upS s (ofA s ys) (t, t))).1, (upS r (ofA r xs) (upS s (ofA s ys) (t, t))).2, 0⟩ := by
  unfold timeR
  rw [if_pos (ent_two h0 h1 hs ht hq)]
  unfold timR
  rw [if_pos ⟨by simp, (tmB_iff t).2 htt⟩]
  have e1 := tmS_step (([⟨-1, r, xs⟩, ⟨0, s, ys⟩] : List Cl).map knC) 1 3 (by decide) (t, t)
  have e2 : ∀ a, tmS (([⟨-1, r, xs⟩, ⟨0, s, ys⟩] : List Cl).map knC) 2 0 a = upS r (ofA r xs) a := by
    intro a
    have q := tmS_step (([⟨-1, r, xs⟩, ⟨0, s, ys⟩] : List Cl).map knC) 0 2 (by decide) a
    exact q
  have e3 : tmS (([⟨-1, r, xs⟩, ⟨0, s, ys⟩] : List Cl).map knC) 3 1 (t, t) = upS r (ofA r xs) (upS s (ofA s ys) (t, t)) := by
    refine e1.trans ?_
    exact e2 _
  show R3.mk (tmS _ 3 1 (t, t)).1 (tmS _ 3 1 (t, t)).2 0 = _
  rw [e3]
/-- the truth of ClockTree -/
theorem tree_in {r n : Int} {xs : List Xc} {T : Int → Int} {un : Int} {a : Int × Int} (hr : 0 ≤ r ∧ r ≤ 1000000) (hL : Lip r T) (hx : ∀ x ∈ xs, InX r T x) (hT : ∀ z, -9000000000000000000 ≤ T z ∧ T z ≤ 9000000000000000000)
    (ha : a.1 * 1000000000 ≤ un ∧ un ≤ a.2 * 1000000000) :
    (n + a.1 + (atS r (n + a.1) (ofA r xs)).1) * 1000000000 ≤ dnG (n * 1000000000 + un) * 1000000000 + T (dnG (n * 1000000000 + un)) ∧
    upG (n * 1000000000 + un) * 1000000000 + T (upG (n * 1000000000 + un)) ≤ (n + a.2 + (atS r (n + a.2) (ofA r xs)).2) * 1000000000 := by
  have h1 : n + a.1 ≤ dnG (n * 1000000000 + un) := by unfold dnG; omega
  have h2 : upG (n * 1000000000 + un) ≤ n + a.2 := by unfold upG; omega
  generalize dnG (n * 1000000000 + un) = lo at *
  generalize upG (n * 1000000000 + un) = hi at *
  have q1 := at_in (t := n + a.1) hL hx (hT _)
  have q2 := at_in (t := n + a.2) hL hx (hT _)
  have l1 := hL _ _ h1
  have l2 := hL _ _ h2
  have m1 : r * (lo - (n + a.1)) ≤ 1000000 * (lo - (n + a.1)) := Int.mul_le_mul_of_nonneg_right hr.2 (by omega)
  have m2 : r * (n + a.2 - hi) ≤ 1000000 * (n + a.2 - hi) := Int.mul_le_mul_of_nonneg_right hr.2 (by omega)
  omega
end Go.Proofs.Ytcchmjbedppfnaa

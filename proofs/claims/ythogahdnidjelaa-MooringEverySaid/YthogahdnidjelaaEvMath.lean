/-
  MooringEvery: the mathematics.
-/
import Derived.Test.YthogahdnidjelaaBalMath
namespace Go.Proofs.Ythogahdnidjelaa
open Go.RowKit Go.Shelf
set_option linter.unusedSimpArgs false
theorem sq_nn (a : Int) : 0 ≤ a * a := by rcases Int.le_total 0 a with h | h; exact Int.mul_nonneg h h; exact Int.mul_nonneg_of_nonpos_of_nonpos h h
/-- Cauchy and Schwarz in the plane, for a vector of length 5 -/
theorem cs25 (x y p q : Int) (h : p * p + q * q = 25) : (x * p + y * q) * (x * p + y * q) ≤ 25 * (x * x + y * y) := by
  have e : 25 * (x * x + y * y) - (x * p + y * q) * (x * p + y * q) = (x * q - y * p) * (x * q - y * p) := by rw [← h]; grind
  have := sq_nn (x * q - y * p)
  omega
theorem le_of_sq {a b : Int} (hb : 0 ≤ b) (h : a * a ≤ b * b) : a ≤ b := by
  rcases Int.lt_or_le b a with g | g
  · have : (b + 1) * (b + 1) ≤ a * a := Int.mul_le_mul g g (by omega) (by omega)
    have e : (b + 1) * (b + 1) = b * b + 2 * b + 1 := by grind
    omega
  · exact g
/-- the sum of the vectors is no longer than the sum of the lengths -/
theorem vec_up {x y p q P F : Int} (h : p * p + q * q = 25) (hP : 0 ≤ P) (hF : 0 ≤ F) (hS : x * x + y * y ≤ 25 * (P * P)) :
    (x + p * F) * (x + p * F) + (y + q * F) * (y + q * F) ≤ 25 * ((P + F) * (P + F)) := by
  have c := cs25 x y p q h
  have d : x * p + y * q ≤ 25 * P := le_of_sq (by omega) (by
    have : 25 * P * (25 * P) = 25 * (25 * (P * P)) := by grind
    omega)
  have e : (x + p * F) * (x + p * F) + (y + q * F) * (y + q * F) = (x * x + y * y) + 2 * (F * (x * p + y * q)) + (p * p + q * q) * (F * F) := by grind
  have g : F * (x * p + y * q) ≤ F * (25 * P) := Int.mul_le_mul_of_nonneg_left d hF
  have k : 25 * ((P + F) * (P + F)) = 25 * (P * P) + 2 * (F * (25 * P)) + 25 * (F * F) := by grind
  rw [e, k, h]
  omega
/-- nor shorter than one less the length that is added -/
theorem vec_down {x y p q Q F : Int} (h : p * p + q * q = 25) (hF : 0 ≤ F) (hQ : F ≤ Q) (hS : 25 * (Q * Q) ≤ x * x + y * y) :
    25 * ((Q - F) * (Q - F)) ≤ (x + p * F) * (x + p * F) + (y + q * F) * (y + q * F) := by
  have c := cs25 x y p q h
  have e : (x + p * F) * (x + p * F) + (y + q * F) * (y + q * F) = (x * x + y * y) + 2 * (F * (x * p + y * q)) + (p * p + q * q) * (F * F) := by grind
  have k : 25 * ((Q - F) * (Q - F)) = 25 * (Q * Q) - 50 * (Q * F) + 25 * (F * F) := by grind
  rw [e, k, h]
  generalize x * p + y * q = C at *
  generalize x * x + y * y = S at *
  rcases Int.lt_or_le C (-(25 * Q)) with g | g
  · -- 25 S ≥ C²
    have f : 0 ≤ (-C - 25 * Q) * (-C + 25 * Q - 50 * F) := Int.mul_nonneg (by omega) (by omega)
    have f2 : (-C - 25 * Q) * (-C + 25 * Q - 50 * F) = C * C + 50 * (F * C) - 625 * (Q * Q) + 1250 * (Q * F) := by grind
    omega
  · have f : F * (-(25 * Q)) ≤ F * C := Int.mul_le_mul_of_nonneg_left g hF
    have f2 : F * (-(25 * Q)) = -(25 * (Q * F)) := by grind
    omega
theorem vec_new {x y p q P F : Int} (h : p * p + q * q = 25) (hP : 0 ≤ P) (hF : P ≤ F) (hS : x * x + y * y ≤ 25 * (P * P)) :
    25 * ((F - P) * (F - P)) ≤ (x + p * F) * (x + p * F) + (y + q * F) * (y + q * F) := by
  have c := cs25 x y p q h
  have d : -(x * p + y * q) ≤ 25 * P := le_of_sq (by omega) (by
    have : 25 * P * (25 * P) = 25 * (25 * (P * P)) := by grind
    have : -(x * p + y * q) * -(x * p + y * q) = (x * p + y * q) * (x * p + y * q) := by grind
    omega)
  have e : (x + p * F) * (x + p * F) + (y + q * F) * (y + q * F) = (x * x + y * y) + 2 * (F * (x * p + y * q)) + (p * p + q * q) * (F * F) := by grind
  have k : 25 * ((F - P) * (F - P)) = 25 * (P * P) - 50 * (F * P) + 25 * (F * F) := by grind
  rw [e, k, h]
  generalize x * p + y * q = C at *
  generalize x * x + y * y = S at *
  have f : 0 ≤ (25 * P + C) * (50 * F - 25 * P + C) := Int.mul_nonneg (by omega) (by omega)
  have f2 : (25 * P + C) * (50 * F - 25 * P + C) = C * C + 50 * (F * C) - 625 * (P * P) + 1250 * (F * P) := by grind
  omega
theorem sq_leE {a b : Int} (ha : 0 ≤ a) (h : a ≤ b) : a * a ≤ b * b := Int.mul_le_mul h h ha (by omega)
/-- the true pull squared (25 times), against both ends -/
structure Vec (S P Q : Int) : Prop where
  up : S ≤ 25 * (P * P)
  lo : 0 ≤ Q → 25 * (Q * Q) ≤ S
  nn : 0 ≤ P
theorem Vec.step {x y p q P Q F P' Q' : Int} (h : p * p + q * q = 25) (hV : Vec (x * x + y * y) P Q) (hF : 0 ≤ F) (hP : P + F ≤ P') (hQ : Q' ≤ Q - F ∨ Q' ≤ F - P) :
    Vec ((x + p * F) * (x + p * F) + (y + q * F) * (y + q * F)) P' Q' := by
  obtain ⟨a, b, c⟩ := hV
  refine ⟨?_, fun h0 => ?_, by omega⟩
  · have := vec_up h c hF a
    have := sq_leE (a := P + F) (b := P') (by omega) hP
    omega
  · rcases hQ with g | g
    · have := vec_down h hF (Q := Q) (by omega) (b (by omega))
      have := sq_leE (a := Q') (b := Q - F) h0 g
      omega
    · have := vec_new h c (F := F) (by omega) a
      have := sq_leE (a := Q') (b := F - P) h0 g
      omega
/-- the four ends of offset and rise -/
theorem off_lo_true {L o t H v S : Int} (ho : 0 ≤ o) (hoL : o ≤ L) (h : o * t ≤ L * H) (ht : 0 ≤ t) (ht2 : H * H + v * v ≤ t * t) (hS : 25 * (H * H) ≤ S) :
    o * o * (S + 25 * v * v) ≤ L * L * S := by
  have a : (o * t) * (o * t) ≤ (L * H) * (L * H) := sq_leE (Int.mul_nonneg ho ht) h
  have b : (o * o) * (H * H + v * v) ≤ (o * o) * (t * t) := Int.mul_le_mul_of_nonneg_left ht2 (sq_nn o)
  have c : 0 ≤ (L * L - o * o) * (S - 25 * (H * H)) := Int.mul_nonneg (by have := sq_leE ho hoL; omega) (by omega)
  have e1 : (o * t) * (o * t) = (o * o) * (t * t) := by grind
  have e2 : (L * L - o * o) * (S - 25 * (H * H)) = L * L * S - o * o * S - 25 * ((L * H) * (L * H)) + 25 * ((o * o) * (H * H)) := by grind
  have e3 : o * o * (S + 25 * v * v) = o * o * S + 25 * ((o * o) * (v * v)) := by grind
  have e4 : (o * o) * (H * H + v * v) = (o * o) * (H * H) + (o * o) * (v * v) := by grind
  omega
theorem off_hi_true {L o t H v S : Int} (hL : 0 ≤ L) (ho : 0 ≤ o) (hoL : o ≤ L) (hH : 0 ≤ H) (h : L * H ≤ o * t) (ht2 : t * t ≤ H * H + v * v) (hS : S ≤ 25 * (H * H)) :
    L * L * S ≤ o * o * (S + 25 * v * v) := by
  have a : (L * H) * (L * H) ≤ (o * t) * (o * t) := sq_leE (Int.mul_nonneg hL hH) h
  have b : (o * o) * (t * t) ≤ (o * o) * (H * H + v * v) := Int.mul_le_mul_of_nonneg_left ht2 (sq_nn o)
  have c : 0 ≤ (L * L - o * o) * (25 * (H * H) - S) := Int.mul_nonneg (by have := sq_leE ho hoL; omega) (by omega)
  have e1 : (o * t) * (o * t) = (o * o) * (t * t) := by grind
  have e2 : (L * L - o * o) * (25 * (H * H) - S) = 25 * ((L * H) * (L * H)) - 25 * ((o * o) * (H * H)) - L * L * S + o * o * S := by grind
  have e3 : o * o * (S + 25 * v * v) = o * o * S + 25 * ((o * o) * (v * v)) := by grind
  have e4 : (o * o) * (H * H + v * v) = (o * o) * (H * H) + (o * o) * (v * v) := by grind
  omega
theorem off_hi_len {L v S : Int} : L * L * S ≤ L * L * (S + 25 * v * v) := by
  have e3 : L * L * (S + 25 * v * v) = L * L * S + 25 * ((L * v) * (L * v)) := by grind
  have := sq_nn (L * v)
  omega
theorem ris_lo_true {L r t H v S : Int} (hr : 0 ≤ r) (h : r * t ≤ L * v) (ht : 0 ≤ t) (ht2 : H * H + v * v ≤ t * t) (hS : S ≤ 25 * (H * H)) :
    r * r * (S + 25 * v * v) ≤ 25 * L * L * v * v := by
  have a : (r * t) * (r * t) ≤ (L * v) * (L * v) := sq_leE (Int.mul_nonneg hr ht) h
  have b : (r * r) * (S + 25 * v * v) ≤ (r * r) * (25 * (t * t)) := Int.mul_le_mul_of_nonneg_left (by
    have e : 25 * v * v = 25 * (v * v) := by grind
    omega) (sq_nn r)
  have e1 : (r * r) * (25 * (t * t)) = 25 * ((r * t) * (r * t)) := by grind
  have e2 : 25 * L * L * v * v = 25 * ((L * v) * (L * v)) := by grind
  omega
theorem ris_hi_true {L r t H v S : Int} (hL : 0 ≤ L) (hv : 0 ≤ v) (h : L * v ≤ r * t) (ht2 : t * t ≤ H * H + v * v) (hS : 25 * (H * H) ≤ S) :
    25 * L * L * v * v ≤ r * r * (S + 25 * v * v) := by
  have a : (L * v) * (L * v) ≤ (r * t) * (r * t) := sq_leE (Int.mul_nonneg hL hv) h
  have b : (r * r) * (25 * (t * t)) ≤ (r * r) * (S + 25 * v * v) := Int.mul_le_mul_of_nonneg_left (by
    have e : 25 * v * v = 25 * (v * v) := by grind
    omega) (sq_nn r)
  have e1 : (r * r) * (25 * (t * t)) = 25 * ((r * t) * (r * t)) := by grind
  have e2 : 25 * L * L * v * v = 25 * ((L * v) * (L * v)) := by grind
  omega
theorem ris_hi_len {L v S : Int} (hS : 0 ≤ S) : 25 * L * L * v * v ≤ L * L * (S + 25 * v * v) := by
  have e3 : L * L * (S + 25 * v * v) = L * L * S + 25 * L * L * v * v := by grind
  have := Int.mul_nonneg (sq_nn L) hS
  omega
theorem up_mul {n t : Int} (ht : 1 ≤ t) : n ≤ (n + t - 1) / t * t := by
  have := Int.emod_lt_of_pos (n + t - 1) (show 0 < t by omega)
  have e := Int.ediv_mul_add_emod (n + t - 1) t
  omega

/-- a piece of the statement's rig -/
structure Pc where
  len : Int
  lift : Int
  drag : Int
  str : Int
  a : Int
  b : Int
  at_ : Int
  way : Int
  slk : Int
instance : Inhabited Pc := ⟨⟨0, 0, 0, 0, 0, 0, 0, 0, 0⟩⟩
def pc (ps : List Pc) (k : Nat) : Pc := ps[k]?.getD default
structure OkPc (p : Pc) : Prop where
  len : 0 ≤ p.len ∧ p.len ≤ 65535
  lift : -32768 ≤ p.lift ∧ p.lift ≤ 32767
  drag : 0 ≤ p.drag ∧ p.drag ≤ 255
  str : 0 ≤ p.str ∧ p.str ≤ 65535
  a : 0 ≤ p.a ∧ p.a ≤ 255
  b : 0 ≤ p.b ∧ p.b ≤ 255
  at_ : 0 ≤ p.at_ ∧ p.at_ ≤ 255
  way : 0 ≤ p.way ∧ p.way ≤ 255
  slk : 0 ≤ p.slk ∧ p.slk ≤ 255
def pL (p : Pc) : Int := Int.tdiv p.lift 4
def pE (p : Pc) : El := ⟨p.len % 4096, pL p, p.drag, 1 + p.str⟩
def pA (p : Pc) : Int := min (p.a % 4) (p.b % 4)
def pB (p : Pc) : Int := max (p.a % 4) (p.b % 4)
def pT (p : Pc) : Int := pA p + p.at_ % (pB p - pA p + 1)
def pC (p : Pc) : Pr := ⟨max 0 (1000 * pA p - p.slk % 100), min 3000 (1000 * pB p + p.slk % 100)⟩
def needTo (ps : List Pc) : Nat → Int
  | 0 => 1
  | k + 1 => needTo ps k + max 0 (-(pL (pc ps k)))
def rowM {α : Type} (f : Nat → α) (n : Nat) : List α := (List.range n).map f
theorem rowM_succ {α : Type} (f : Nat → α) (n : Nat) : rowM f (n + 1) = rowM f n ++ [f n] := by simp [rowM, List.range_succ]
theorem rowM_len {α : Type} (f : Nat → α) (n : Nat) : (rowM f n).length = n := by simp [rowM]
theorem rowM_get {α : Type} [Inhabited α] (f : Nat → α) {n k : Nat} (h : k < n) : (rowM f n)[k]?.getD default = f k := by simp [rowM, h]
/-- the elements as they are appended; and with the first one's lift -/
def evE (ps : List Pc) (n : Nat) : List El := rowM (fun k => pE (pc ps k)) n
def evZ (ps : List Pc) (n : Nat) : List El := rowM (fun k => if k = 0 then { pE (pc ps 0) with lift := (pE (pc ps 0)).lift + needTo ps n } else pE (pc ps k)) n
def evC (ps : List Pc) (n : Nat) : List Pr := rowM (fun k => pC (pc ps k)) n
def evT (ps : List Pc) (n : Nat) : List Int := rowM (fun k => pT (pc ps k)) n
theorem pL_bd {p : Pc} (h : OkPc p) : -8192 ≤ pL p ∧ pL p ≤ 8191 := by
  have := h.lift
  unfold pL
  rcases Int.le_total 0 p.lift with g | g
  · rw [Int.tdiv_eq_ediv_of_nonneg g]; omega
  · have e : p.lift = -(-p.lift) := by omega
    rw [e, Int.neg_tdiv, Int.tdiv_eq_ediv_of_nonneg (by omega)]; omega
theorem need_bd (ps : List Pc) : ∀ n, (∀ k, k < n → OkPc (pc ps k)) → 1 ≤ needTo ps n ∧ needTo ps n ≤ 1 + 8192 * (n : Int)
  | 0, _ => by simp [needTo]
  | n + 1, h => by
    have ih := need_bd ps n (fun k hk => h k (by omega))
    have := pL_bd (h n (by omega))
    simp only [needTo]
    omega
theorem pAB {p : Pc} (h : OkPc p) : 0 ≤ pA p ∧ pA p ≤ pB p ∧ pB p ≤ 3 ∧ pA p ≤ pT p ∧ pT p ≤ pB p := by
  have h1 := h.a
  have h2 := h.b
  have h3 : 0 ≤ pA p ∧ pA p ≤ pB p ∧ pB p ≤ 3 := by unfold pA pB; omega
  have e1 := Int.emod_nonneg p.at_ (show pB p - pA p + 1 ≠ 0 by omega)
  have e2 := Int.emod_lt_of_pos p.at_ (show 0 < pB p - pA p + 1 by omega)
  unfold pT
  omega
theorem pC_ok {p : Pc} (h : OkPc p) : okC (pC p) = true := by
  have h1 := pAB h
  have h2 := h.slk
  rw [okC_iff]
  unfold pC
  dsimp only
  omega
/-- the true force -/
def pF (p : Pc) : Int := p.drag * pT p * pT p
theorem pF_bd {p : Pc} (h : OkPc p) : 0 ≤ pF p ∧ pF p ≤ 2295 ∧ 0 ≤ p.drag * pT p ∧ p.drag * pT p ≤ 765 := by
  have h1 := pAB h
  have h2 := h.drag
  have e1 : 0 ≤ p.drag * pT p := Int.mul_nonneg h2.1 (by omega)
  have e2 : p.drag * pT p ≤ 255 * 3 := Int.mul_le_mul h2.2 (by omega) (by omega) (by decide)
  have e3 : 0 ≤ p.drag * pT p * pT p := Int.mul_nonneg e1 (by omega)
  have e4 : p.drag * pT p * pT p ≤ 255 * 3 * 3 := Int.mul_le_mul e2 (by omega) (by omega) (by decide)
  unfold pF
  omega
theorem pF_in {p : Pc} (h : OkPc p) (x : El) (hx : x.drag = p.drag) : fLo x (pC p) ≤ pF p ∧ pF p ≤ fHi x (pC p) := by
  have h1 := pAB h
  have h2 := h.drag
  have h3 := h.slk
  have l1 : (pC p).lo ≤ 1000 * pT p := by unfold pC; dsimp only; omega
  have l0 : 0 ≤ (pC p).lo := by unfold pC; dsimp only; omega
  have l2 : 1000 * pT p ≤ (pC p).hi := by unfold pC; dsimp only; omega
  have e : p.drag * (1000 * pT p) * (1000 * pT p) = 1000000 * pF p := by unfold pF; grind
  have m1 := drag_mono h2.1 l0 l1
  have m2 := drag_mono h2.1 (by omega) l2
  unfold fLo fHi
  rw [hx]
  omega
theorem evZ_el (ps : List Pc) {n k : Nat} (h : k < n) : el (evZ ps n) k = if k = 0 then { pE (pc ps 0) with lift := (pE (pc ps 0)).lift + needTo ps n } else pE (pc ps k) := rowM_get _ h
theorem evC_pr (ps : List Pc) {n k : Nat} (h : k < n) : pr (evC ps n) k = pC (pc ps k) := rowM_get _ h
theorem evZ_drag (ps : List Pc) {n k : Nat} (h : k < n) : (el (evZ ps n) k).drag = (pc ps k).drag := by
  rw [evZ_el ps h]
  split
  · rename_i e; subst e; rfl
  · rfl
theorem evZ_len (ps : List Pc) {n k : Nat} (h : k < n) : (el (evZ ps n) k).len = (pc ps k).len % 4096 := by
  rw [evZ_el ps h]
  split
  · rename_i e; subst e; rfl
  · rfl
/-- the lift that carries the rest -/
theorem need_left (ps : List Pc) : ∀ n k, k ≤ n → (∀ j, j < n → OkPc (pc ps j)) → needTo ps k ≤ needTo ps n
  | 0, k, h, _ => by obtain rfl : k = 0 := by omega
                     exact Int.le_refl _
  | n + 1, k, h, ho => by
    rcases Nat.lt_or_ge k (n + 1) with g | g
    · have := need_left ps n k (by omega) (fun j hj => ho j (by omega))
      simp only [needTo]; omega
    · obtain rfl : k = n + 1 := by omega
      exact Int.le_refl _
def sumL (ps : List Pc) : Nat → Int
  | 0 => 0
  | k + 1 => sumL ps k + pL (pc ps k)
theorem evZ_lif (ps : List Pc) (n : Nat) : ∀ k, k < n → lifTo (evZ ps n) (k + 1) = needTo ps n + sumL ps (k + 1)
  | 0, h => by
    simp only [lifTo, sumL]
    rw [evZ_el ps h, if_pos rfl]
    show 0 + (pL (pc ps 0) + needTo ps n) = _
    omega
  | k + 1, h => by
    have ih := evZ_lif ps n k (by omega)
    have e : lifTo (evZ ps n) (k + 1 + 1) = lifTo (evZ ps n) (k + 1) + (el (evZ ps n) (k + 1)).lift := rfl
    rw [e, ih, evZ_el ps h, if_neg (by omega)]
    show needTo ps n + sumL ps (k + 1) + pL (pc ps (k + 1)) = needTo ps n + (sumL ps (k + 1) + pL (pc ps (k + 1)))
    omega
theorem sumL_bd (ps : List Pc) : ∀ k, (∀ j, j < k → OkPc (pc ps j)) → 1 ≤ needTo ps k + sumL ps k ∧ needTo ps k + sumL ps k ≤ 1 + 8191 * (k : Int)
  | 0, _ => by simp [needTo, sumL]
  | k + 1, h => by
    have ih := sumL_bd ps k (fun j hj => h j (by omega))
    have := pL_bd (h k (by omega))
    simp only [needTo, sumL]
    omega
theorem need_rest (ps : List Pc) : ∀ n k, k ≤ n → (∀ j, j < n → OkPc (pc ps j)) → needTo ps n ≤ needTo ps k + 8192 * ((n : Int) - (k : Int))
  | 0, k, h, _ => by obtain rfl : k = 0 := by omega
                     simp
  | n + 1, k, h, ho => by
    rcases Nat.lt_or_ge k (n + 1) with g | g
    · have := need_rest ps n k (by omega) (fun j hj => ho j (by omega))
      have := pL_bd (ho n (by omega))
      simp only [needTo]; omega
    · obtain rfl : k = n + 1 := by omega
      omega
theorem evZ_lift {ps : List Pc} {n : Nat} (hn : n ≤ 8) (ho : ∀ j, j < n → OkPc (pc ps j)) {k : Nat} (hk : k < n) : 1 ≤ lifTo (evZ ps n) (k + 1) ∧ lifTo (evZ ps n) (k + 1) ≤ 65537 := by
  rw [evZ_lif ps n k hk]
  have a := need_left ps n (k + 1) (by omega) ho
  have b := sumL_bd ps (k + 1) (fun j hj => ho j (by omega))
  have c := need_rest ps n (k + 1) (by omega) ho
  omega
theorem ev_sta {ps : List Pc} {n : Nat} (h0 : 0 < n) (hn : n ≤ 8) (ho : ∀ j, j < n → OkPc (pc ps j)) {dep anc : Int} (hd : 0 ≤ dep ∧ dep ≤ 65535) (ha : 0 ≤ anc ∧ anc ≤ 65535) :
    staE (1 + dep) (evZ ps n) (anc * 4) 600 (evC ps n) = 0 := by
  have lz : (evZ ps n).length = n := rowM_len _ _
  have lc : (evC ps n).length = n := rowM_len _ _
  have hv : ∀ k, k < (evZ ps n).length → vE (el (evZ ps n) k) = true := by
    intro k hk
    rw [lz] at hk
    have nb := need_bd ps n ho
    have o := ho k hk
    have o0 := ho 0 h0
    have b := pL_bd o
    have b0 := pL_bd o0
    have q1 := o.drag
    have q2 := o.str
    have q3 := o0.drag
    have q4 := o0.str
    rw [evZ_el ps hk]
    split
    · rw [vE_iff]; simp only [pE]; omega
    · rw [vE_iff]; simp only [pE]; omega
  have hm : mooE (1 + dep) (evZ ps n) (anc * 4) 600 = 0 := by
    unfold mooE
    rw [if_neg (by omega), if_neg (by omega), if_pos (by simp only [mooOk, btw, Bool.and_eq_true, decide_eq_true_eq]; omega), if_pos]
    refine List.all_eq_true.2 fun z hz => ?_
    obtain ⟨k, hk, rfl⟩ := List.getElem_of_mem hz
    have := hv k hk
    unfold el at this
    rwa [List.getElem?_eq_getElem hk, Option.getD_some] at this
  have hc : curE (1 + dep) (evZ ps n) (anc * 4) 600 (evC ps n) = 0 := by
    unfold curE
    rw [if_pos hm, if_pos (by omega), if_pos]
    exact call_ok fun k hk => by rw [lc] at hk; rw [evC_pr ps hk]; exact pC_ok (ho k hk)
  unfold staE
  rw [if_pos hc, if_pos]
  exact (standB_iff (by omega)).2 fun k hk => by rw [lz] at hk; exact (evZ_lift hn ho hk).1
/-- five times a unit vector -/
def dirX (free : Bool) (p : Pc) : Int := if free = true then (if p.way / 4 % 2 = 1 then -(if p.way % 4 = 0 then 5 else if p.way % 4 = 1 then 4 else if p.way % 4 = 2 then 3 else 0) else (if p.way % 4 = 0 then 5 else if p.way % 4 = 1 then 4 else if p.way % 4 = 2 then 3 else 0)) else 5
def dirY (free : Bool) (p : Pc) : Int := if free = true then (if p.way / 8 % 2 = 1 then -(if p.way % 4 = 0 then 0 else if p.way % 4 = 1 then 3 else if p.way % 4 = 2 then 4 else 5) else (if p.way % 4 = 0 then 0 else if p.way % 4 = 1 then 3 else if p.way % 4 = 2 then 4 else 5)) else 0
theorem dir_unit (free : Bool) (p : Pc) : dirX free p * dirX free p + dirY free p * dirY free p = 25 ∧ -5 ≤ dirX free p ∧ dirX free p ≤ 5 ∧ -5 ≤ dirY free p ∧ dirY free p ≤ 5 := by
  unfold dirX dirY
  cases free
  · simp
  · simp only [if_true]
    have h : p.way % 4 = 0 ∨ p.way % 4 = 1 ∨ p.way % 4 = 2 ∨ p.way % 4 = 3 := by omega
    rcases h with h | h | h | h <;> rw [h] <;> (by_cases g1 : p.way / 4 % 2 = 1) <;> (by_cases g2 : p.way / 8 % 2 = 1) <;> simp [g1, g2]
def evX (free : Bool) (ps : List Pc) : Nat → Int
  | 0 => 0
  | k + 1 => evX free ps k + dirX free (pc ps k) * pF (pc ps k)
def evY (free : Bool) (ps : List Pc) : Nat → Int
  | 0 => 0
  | k + 1 => evY free ps k + dirY free (pc ps k) * pF (pc ps k)
theorem evXY_bd (free : Bool) (ps : List Pc) : ∀ k, (∀ j, j < k → OkPc (pc ps j)) → -11475 * (k : Int) ≤ evX free ps k ∧ evX free ps k ≤ 11475 * (k : Int) ∧ -11475 * (k : Int) ≤ evY free ps k ∧ evY free ps k ≤ 11475 * (k : Int)
  | 0, _ => by simp [evX, evY]
  | k + 1, h => by
    have ih := evXY_bd free ps k (fun j hj => h j (by omega))
    have f := pF_bd (h k (by omega))
    obtain ⟨-, d1, d2, d3, d4⟩ := dir_unit free (pc ps k)
    have m1 := Int.mul_le_mul_of_nonneg_right d1 f.1
    have m2 := Int.mul_le_mul_of_nonneg_right d2 f.1
    have m3 := Int.mul_le_mul_of_nonneg_right d3 f.1
    have m4 := Int.mul_le_mul_of_nonneg_right d4 f.1
    simp only [evX, evY]
    omega
theorem ev_vec (free : Bool) {ps : List Pc} {n : Nat} (ho : ∀ j, j < n → OkPc (pc ps j)) : ∀ k, k ≤ n →
    Vec (evX free ps k * evX free ps k + evY free ps k * evY free ps k) (sHi (evZ ps n) (evC ps n) k) (wid (evZ ps n) (evC ps n) k - sHi (evZ ps n) (evC ps n) k)
  | 0, _ => ⟨by simp [evX, evY, sHi], fun _ => by simp [evX, evY, sHi, wid], by simp [sHi]⟩
  | k + 1, h => by
    have ih := ev_vec free ho k (by omega)
    have f := pF_bd (ho k (by omega))
    have g := pF_in (ho k (by omega)) (el (evZ ps n) k) (evZ_drag ps (by omega))
    have d := (dir_unit free (pc ps k)).1
    simp only [evX, evY, sHi, wid]
    rw [evC_pr ps (by omega)]
    refine Vec.step d ih f.1 (by omega) ?_
    rcases Int.le_total (wid (evZ ps n) (evC ps n) k) (fLo (el (evZ ps n) k) (pC (pc ps k)) + fHi (el (evZ ps n) k) (pC (pc ps k))) with t | t
    · right; omega
    · left; omega
theorem ev_along {ps : List Pc} {n : Nat} (ho : ∀ j, j < n → OkPc (pc ps j)) : ∀ k, k ≤ n →
    ∃ g, evX false ps k = 5 * g ∧ evY false ps k = 0 ∧ 0 ≤ sLo (evZ ps n) (evC ps n) k ∧ sLo (evZ ps n) (evC ps n) k ≤ g
  | 0, _ => ⟨0, by simp [evX, evY, sLo]⟩
  | k + 1, h => by
    obtain ⟨g, e1, e2, e3, e4⟩ := ev_along ho k (by omega)
    have f := pF_in (ho k (by omega)) (el (evZ ps n) k) (evZ_drag ps (by omega))
    have o := ho k (by omega)
    have fb : 0 ≤ fLo (el (evZ ps n) k) (pC (pc ps k)) := by
      have hc := (okC_iff _).1 (pC_ok o)
      unfold fLo
      rw [evZ_drag ps (by omega)]
      exact Int.ediv_nonneg (Int.mul_nonneg (Int.mul_nonneg o.drag.1 hc.1) hc.1) (by decide)
    refine ⟨g + pF (pc ps k), ?_⟩
    simp only [evX, evY, sLo]
    rw [evC_pr ps (by omega), e1, e2]
    simp only [dirX, dirY]
    simp
    omega
theorem ev_ends (free : Bool) {ps : List Pc} {n : Nat} (ho : ∀ j, j < n → OkPc (pc ps j)) {k : Nat} (hk : k ≤ n) :
    25 * (hLo free (evZ ps n) (evC ps n) k * hLo free (evZ ps n) (evC ps n) k) ≤ evX free ps k * evX free ps k + evY free ps k * evY free ps k ∧
    evX free ps k * evX free ps k + evY free ps k * evY free ps k ≤ 25 * (sHi (evZ ps n) (evC ps n) k * sHi (evZ ps n) (evC ps n) k) := by
  have v := ev_vec free ho k hk
  refine ⟨?_, v.up⟩
  unfold hLo
  cases free
  · rw [if_neg (by decide)]
    obtain ⟨g, e1, e2, e3, e4⟩ := ev_along ho k hk
    have := sq_leE e3 e4
    rw [e1, e2]
    have e : 5 * g * (5 * g) + 0 * 0 = 25 * (g * g) := by grind
    omega
  · rw [if_pos rfl]
    rcases Int.le_total 0 (wid (evZ ps n) (evC ps n) k - sHi (evZ ps n) (evC ps n) k) with t | t
    · rw [Int.max_eq_right t]; exact v.lo t
    · rw [Int.max_eq_left t]
      have := sq_nn (evX true ps k)
      have := sq_nn (evY true ps k)
      omega
/-- all comparisons of one element -/
structure EvChk (S v L : Int) (h t o r : Pr) : Prop where
  h0 : 25 * h.lo * h.lo ≤ S
  h1 : S ≤ 25 * h.hi * h.hi
  t0 : 25 * t.lo * t.lo ≤ S + 25 * v * v
  t1 : S + 25 * v * v ≤ 25 * t.hi * t.hi
  o0 : o.lo * o.lo * (S + 25 * v * v) ≤ L * L * S
  o1 : L * L * S ≤ o.hi * o.hi * (S + 25 * v * v)
  r0 : r.lo * r.lo * (S + 25 * v * v) ≤ 25 * L * L * v * v
  r1 : 25 * L * L * v * v ≤ r.hi * r.hi * (S + 25 * v * v)
theorem mulass (a : Int) : 25 * a * a = 25 * (a * a) := by grind
theorem ev_chk (free : Bool) {ps : List Pc} {n : Nat} (hr : Rig (evZ ps n) (evC ps n)) (hn : n ≤ 8) (ho : ∀ j, j < n → OkPc (pc ps j)) {k : Nat} (hk : k < n) :
    EvChk (evX free ps (k + 1) * evX free ps (k + 1) + evY free ps (k + 1) * evY free ps (k + 1)) (lifTo (evZ ps n) (k + 1)) (el (evZ ps n) k).len
      (pulG free (evZ ps n) (evC ps n) (k + 1)) (tenG free (evZ ps n) (evC ps n) (k + 1)) (offG free (evZ ps n) (evC ps n) (k + 1)) (risG free (evZ ps n) (evC ps n) (k + 1)) := by
  have lz : (evZ ps n).length = n := rowM_len _ _
  have hst : ∀ k, k < (evZ ps n).length → 1 ≤ lifTo (evZ ps n) (k + 1) := fun k hk => (evZ_lift hn ho (by omega)).1
  obtain ⟨s0, s1⟩ := ev_ends free ho (k := k + 1) (by omega)
  obtain ⟨p0, -, p1, p2⟩ := pull_bd hr free (k := k + 1) (by omega)
  have v1 := evZ_lift hn ho hk
  obtain ⟨la, lb, lc, ld⟩ := le_pos hr hst free (k := k) (by omega)
  have ob := off_bd hr hst free (k := k) (by omega)
  have rb := ris_bd hr hst free (k := k) (by omega)
  have hL := ((vE_iff _).1 (hr.els k (by omega))).1
  have hlo2 := sq_leE p0 p1
  simp only [offG, risG, leG, moG] at *
  simp only [pulG, tenG]
  generalize hS : evX free ps (k + 1) * evX free ps (k + 1) + evY free ps (k + 1) * evY free ps (k + 1) = S at *
  generalize hLo free (evZ ps n) (evC ps n) (k + 1) = p at *
  generalize sHi (evZ ps n) (evC ps n) (k + 1) = q at *
  generalize lifTo (evZ ps n) (k + 1) = v at *
  generalize (el (evZ ps n) k).len = L at *
  have hpp : 0 ≤ p * p := sq_nn p
  have hqq : 0 ≤ q * q := sq_nn q
  have hvv : 1 ≤ v * v := by have := Int.mul_le_mul v1.1 v1.1 (by decide) (by omega); simpa using this
  have i1 := isq_spec (x := p * p + v * v) (by omega)
  have i2 := isq_spec (x := q * q + v * v) (by omega)
  have u1 := isqUp_ge (x := p * p + v * v) (by omega)
  have u2 := isqUp_ge (x := q * q + v * v) (by omega)
  have w1 := isq_pos (x := p * p + v * v) (by omega)
  have w2 := isq_pos (x := q * q + v * v) (by omega)
  have ev : 25 * v * v = 25 * (v * v) := mulass v
  have S0 : 0 ≤ S := by omega
  obtain ⟨i10, i11, -⟩ := i1
  obtain ⟨i20, i21, -⟩ := i2
  refine ⟨by rw [mulass]; exact s0, by rw [mulass]; exact s1, by dsimp only; rw [mulass]; omega, by dsimp only; rw [mulass v, mulass (isqUp (q * q + v * v))]; omega, ?_, ?_, ?_, ?_⟩
  · exact off_lo_true ob.1 ob.2.1 (Int.ediv_mul_le _ (by omega)) (by omega) u1.2 s0
  · rcases Int.le_total ((L * q + isq (q * q + v * v) - 1) / isq (q * q + v * v)) L with t | t
    · rw [Int.min_eq_left t] at ob ⊢
      exact off_hi_true hL.1 ob.2.2.1 t (by omega) (up_mul w2) i21 s1
    · rw [Int.min_eq_right t]; exact off_hi_len
  · exact ris_lo_true rb.1 (Int.ediv_mul_le _ (by omega)) (by omega) u2.2 s1
  · rcases Int.le_total ((L * v + isq (p * p + v * v) - 1) / isq (p * p + v * v)) L with t | t
    · rw [Int.min_eq_left t]
      exact ris_hi_true hL.1 (by omega) (up_mul w1) i11 s0
    · rw [Int.min_eq_right t]; exact ris_hi_len S0
end Go.Proofs.Ythogahdnidjelaa

/-
  Lagrange's sum over any commutative ring: no Go in this text.
-/
namespace Go.Proofs.YtnaiccfdbapdpaaDoor
/-- The product of the first n. -/
def prN {R : Type} [Lean.Grind.CommRing R] (f : Nat → R) : Nat → R
  | 0 => 1
  | n + 1 => prN f n * f n
/-- The product of the first n but the i-th. -/
def prE {R : Type} [Lean.Grind.CommRing R] (f : Nat → R) (i : Nat) : Nat → R
  | 0 => 1
  | n + 1 => if n = i then prE f i n else prE f i n * f n
/-- The sum of the first n. -/
def smN {R : Type} [Lean.Grind.CommRing R] (f : Nat → R) : Nat → R
  | 0 => 0
  | n + 1 => smN f n + f n
theorem smN_congr {R : Type} [Lean.Grind.CommRing R] {f g : Nat → R} : ∀ {n : Nat}, (∀ i, i < n → f i = g i) → smN f n = smN g n
  | 0, _ => rfl
  | n + 1, h => by
    show smN f n + f n = smN g n + g n
    rw [smN_congr fun i hi => h i (Nat.lt_succ_of_lt hi), h n (Nat.lt_succ_self n)]
theorem prE_congr {R : Type} [Lean.Grind.CommRing R] {f g : Nat → R} {i : Nat} : ∀ {n : Nat}, (∀ k, k < n → k ≠ i → f k = g k) → prE f i n = prE g i n
  | 0, _ => rfl
  | n + 1, h => by
    show (if n = i then prE f i n else prE f i n * f n) = if n = i then prE g i n else prE g i n * g n
    rw [prE_congr fun k hk => h k (Nat.lt_succ_of_lt hk)]
    by_cases e : n = i
    · simp [e]
    · simp only [e, if_false]; rw [h n (Nat.lt_succ_self n) e]
theorem smN_add {R : Type} [Lean.Grind.CommRing R] (f g : Nat → R) : ∀ n, smN (fun i => f i + g i) n = smN f n + smN g n
  | 0 => by show (0 : R) = 0 + 0; grind
  | n + 1 => by
    have := smN_add f g n
    show smN (fun i => f i + g i) n + (f n + g n) = smN f n + f n + (smN g n + g n)
    grind
theorem smN_mul {R : Type} [Lean.Grind.CommRing R] (c : R) (f : Nat → R) : ∀ n, smN (fun i => c * f i) n = c * smN f n
  | 0 => by show (0 : R) = c * 0; grind
  | n + 1 => by
    have := smN_mul c f n
    show smN (fun i => c * f i) n + c * f n = c * (smN f n + f n)
    grind
theorem prE_ge {R : Type} [Lean.Grind.CommRing R] (f : Nat → R) (i : Nat) : ∀ {n}, n ≤ i → prE f i n = prN f n
  | 0, _ => rfl
  | n + 1, h => by
    show (if n = i then prE f i n else prE f i n * f n) = prN f n * f n
    rw [if_neg (by omega), prE_ge f i (by omega)]
theorem prE_step {R : Type} [Lean.Grind.CommRing R] (f : Nat → R) {i n : Nat} (h : i < n) : prE f i (n + 1) = prE f i n * f n := by
  show (if n = i then prE f i n else prE f i n * f n) = _
  rw [if_neg (by omega)]
theorem prE_last {R : Type} [Lean.Grind.CommRing R] (f : Nat → R) (n : Nat) : prE f n (n + 1) = prN f n := by
  show (if n = n then prE f n n else prE f n n * f n) = _
  rw [if_pos rfl, prE_ge f n (Nat.le_refl n)]
theorem prE_mul {R : Type} [Lean.Grind.CommRing R] (f g : Nat → R) (i : Nat) : ∀ n, prE (fun k => f k * g k) i n = prE f i n * prE g i n
  | 0 => by show (1 : R) = 1 * 1; grind
  | n + 1 => by
    have := prE_mul f g i n
    show (if n = i then prE (fun k => f k * g k) i n else prE (fun k => f k * g k) i n * (f n * g n)) = (if n = i then prE f i n else prE f i n * f n) * (if n = i then prE g i n else prE g i n * g n)
    by_cases e : n = i
    · subst e; simp only [if_true]; exact this
    · simp only [e, if_false]; grind
theorem prE_one {R : Type} [Lean.Grind.CommRing R] {f : Nat → R} {i : Nat} : ∀ {n}, (∀ k, k < n → k ≠ i → f k = 1) → prE f i n = 1
  | 0, _ => rfl
  | n + 1, h => by
    show (if n = i then prE f i n else prE f i n * f n) = 1
    have := prE_one (f := f) (i := i) (n := n) fun k hk => h k (Nat.lt_succ_of_lt hk)
    by_cases e : n = i
    · simp only [e, if_true]; rw [← e]; exact e ▸ this
    · simp only [e, if_false]; rw [this, h n (Nat.lt_succ_self n) e]; grind
theorem prE_all {R : Type} [Lean.Grind.CommRing R] (f : Nat → R) {i : Nat} : ∀ {n}, i < n → prE f i n * f i = prN f n
  | 0, h => by omega
  | n + 1, h => by
    by_cases e : i = n
    · subst e; rw [prE_last]; rfl
    · rw [prE_step f (by omega)]
      have := prE_all f (i := i) (n := n) (by omega)
      show _ = prN f n * f n
      grind
/-- Partial fractions. -/
theorem parts {R : Type} [Lean.Grind.CommRing R] {x : Nat → R} {D : Nat → Nat → R} : ∀ {m : Nat}, 0 < m → (∀ k i, k < m → i < m → k ≠ i → (x k - x i) * D k i = 1) → ∀ (z : R) (E : Nat → R), (∀ k, k < m → (x k - z) * E k = 1) →
    prN E m = smN (fun i => E i * prE (fun k => D k i) i m) m
  | 0, h, _, _, _, _ => by omega
  | 1, _, _, z, E, _ => by
    show 1 * E 0 = 0 + E 0 * prE (fun k => D k 0) 0 1
    rw [show prE (fun k => D k 0) 0 1 = (1 : R) from rfl]
    grind
  | m + 2, _, hD, z, E, hE => by
    have IH := parts (x := x) (D := D) (m := m + 1) (by omega) (fun k i hk hi => hD k i (by omega) (by omega))
    have I1 := IH z E (fun k hk => hE k (by omega))
    have I2 := IH (x (m + 1)) (fun k => D k (m + 1)) (fun k hk => hD k (m + 1) (by omega) (by omega) (by omega))
    show prN E (m + 1) * E (m + 1) = smN (fun i => E i * prE (fun k => D k i) i (m + 2)) (m + 1) + E (m + 1) * prE (fun k => D k (m + 1)) (m + 1) (m + 2)
    rw [prE_last, I2, I1]
    have c : smN (fun i => E i * prE (fun k => D k i) i (m + 2)) (m + 1) = smN (fun i => E (m + 1) * (E i * prE (fun k => D k i) i (m + 1)) + (0 - E (m + 1)) * (D i (m + 1) * prE (fun k => D k i) i (m + 1))) (m + 1) := by
      refine smN_congr fun i hi => ?_
      rw [prE_step _ hi]
      have e1 := hD (m + 1) i (by omega) (by omega) (by omega)
      have e2 := hD i (m + 1) (by omega) (by omega) (by omega)
      have e3 := hE i (by omega)
      have e4 := hE (m + 1) (by omega)
      generalize prE (fun k => D k i) i (m + 1) = A at *
      have e5 : E i * D (m + 1) i = E (m + 1) * E i - E (m + 1) * D i (m + 1) := by
        have f1 : D i (m + 1) = 0 - D (m + 1) i := by
          generalize D i (m + 1) = a at *
          generalize D (m + 1) i = b at *
          grind
        rw [f1]
        generalize D (m + 1) i = b at *
        generalize E i = a at *
        generalize E (m + 1) = c at *
        generalize x i = u at *
        generalize x (m + 1) = v at *
        have g1 : (v - u) * b = 1 := e1
        grind
      grind
    rw [c, smN_add, smN_mul, smN_mul]
    grind
/-- A polynomial, the lowest coefficient first. -/
def evL {R : Type} [Lean.Grind.CommRing R] : List R → R → R
  | [], _ => 0
  | a :: l, x => a + x * evL l x
theorem evL_div {R : Type} [Lean.Grind.CommRing R] (a : R) : ∀ l : List R, ∃ g : List R, g.length = l.length - 1 ∧ ∀ x, evL l x - evL l a = (x - a) * evL g x
  | [] => ⟨[], rfl, fun x => by show (0 : R) - 0 = (x - a) * 0; grind⟩
  | [b] => ⟨[], rfl, fun x => by show (b + x * 0) - (b + a * 0) = (x - a) * 0; grind⟩
  | b :: c :: t => by
    obtain ⟨g, h1, h2⟩ := evL_div a (c :: t)
    refine ⟨evL (c :: t) a :: g, by simp [h1], fun x => ?_⟩
    have := h2 x
    show (b + x * evL (c :: t) x) - (b + a * evL (c :: t) a) = (x - a) * (evL (c :: t) a + x * evL g x)
    generalize evL (c :: t) x = p at *
    generalize evL (c :: t) a = q at *
    generalize evL g x = r at *
    grind
/-- A share's weight. -/
def wgt {R : Type} [Lean.Grind.CommRing R] (x : Nat → R) (D : Nat → Nat → R) (i m : Nat) : R := prE x i m * prE (fun k => D k i) i m
theorem wgt_step {R : Type} [Lean.Grind.CommRing R] (x : Nat → R) (D : Nat → Nat → R) {i m : Nat} (h : i < m) : wgt x D i (m + 1) = wgt x D i m * (x m * D m i) := by
  unfold wgt; rw [prE_step _ h, prE_step _ h]; grind
theorem wgt_last {R : Type} [Lean.Grind.CommRing R] (x : Nat → R) (D : Nat → Nat → R) (m : Nat) : wgt x D m (m + 1) = prN x m * prN (fun k => D k m) m := by
  unfold wgt; rw [prE_last, prE_last]
/-- All weights together are 1. -/
theorem wgt_sum {R : Type} [Lean.Grind.CommRing R] {x : Nat → R} {D : Nat → Nat → R} : ∀ {m : Nat}, 0 < m → (∀ k i, k < m → i < m → k ≠ i → (x k - x i) * D k i = 1) → smN (fun i => wgt x D i m) m = 1
  | 0, h, _ => by omega
  | 1, _, _ => by
    show 0 + wgt x D 0 1 = 1
    rw [show wgt x D 0 1 = (1 : R) * 1 from rfl]; grind
  | m + 2, _, hD => by
    have IH := wgt_sum (x := x) (D := D) (m := m + 1) (by omega) (fun k i hk hi => hD k i (by omega) (by omega))
    have I2 := parts (x := x) (D := D) (m := m + 1) (by omega) (fun k i hk hi => hD k i (by omega) (by omega)) (x (m + 1)) (fun k => D k (m + 1)) (fun k hk => hD k (m + 1) (by omega) (by omega) (by omega))
    show smN (fun i => wgt x D i (m + 2)) (m + 1) + wgt x D (m + 1) (m + 2) = 1
    rw [wgt_last, I2]
    have c : smN (fun i => wgt x D i (m + 2)) (m + 1) = smN (fun i => wgt x D i (m + 1) + (0 - prN x (m + 1)) * (D i (m + 1) * prE (fun k => D k i) i (m + 1))) (m + 1) := by
      refine smN_congr fun i hi => ?_
      rw [wgt_step x D hi]
      have e1 := hD (m + 1) i (by omega) (by omega) (by omega)
      have e2 := hD i (m + 1) (by omega) (by omega) (by omega)
      have e3 := prE_all x hi
      unfold wgt
      generalize prE (fun k => D k i) i (m + 1) = A at *
      generalize prE x i (m + 1) = B at *
      generalize prN x (m + 1) = C at *
      generalize D i (m + 1) = a at *
      generalize D (m + 1) i = b at *
      generalize x i = u at *
      generalize x (m + 1) = v at *
      subst e3
      have f1 : a = 0 - b := by grind
      subst f1
      grind
    rw [c, smN_add, smN_mul, IH]
    grind
/-- Lagrange: the weighted sum of a polynomial's values is its value at 0. -/
theorem lag {R : Type} [Lean.Grind.CommRing R] {x : Nat → R} {D : Nat → Nat → R} : ∀ {m : Nat}, (∀ k i, k < m → i < m → k ≠ i → (x k - x i) * D k i = 1) → ∀ c : List R, c.length ≤ m → smN (fun i => wgt x D i m * evL c (x i)) m = evL c 0
  | 0, _, c, hc => by
    have : c = [] := by cases c with
      | nil => rfl
      | cons _ _ => simp at hc
    subst this; rfl
  | m + 1, hD, c, hc => by
    obtain ⟨g, h1, h2⟩ := evL_div (x m) c
    have IH := lag (x := x) (D := D) (m := m) (fun k i hk hi => hD k i (by omega) (by omega)) g (by omega)
    have I1 := wgt_sum (x := x) (D := D) (m := m + 1) (by omega) hD
    have h0 := h2 0
    have c : smN (fun i => wgt x D i (m + 1) * evL c (x i)) m = smN (fun i => evL c (x m) * wgt x D i (m + 1) + (0 - x m) * (wgt x D i m * evL g (x i))) m := by
      refine smN_congr fun i hi => ?_
      rw [wgt_step x D hi]
      have e1 := hD m i (by omega) (by omega) (by omega)
      have e2 := h2 (x i)
      generalize wgt x D i m = A at *
      generalize evL c (x i) = B at *
      generalize evL c (x m) = C at *
      generalize evL g (x i) = G at *
      generalize D m i = b at *
      generalize x i = u at *
      generalize x m = v at *
      have : B = C + (u - v) * G := by grind
      subst this
      grind
    show smN (fun i => wgt x D i (m + 1) * evL _ (x i)) m + wgt x D m (m + 1) * evL _ (x m) = _
    rw [c, smN_add, smN_mul, smN_mul, IH]
    have I3 : smN (fun i => wgt x D i (m + 1)) m + wgt x D m (m + 1) = 1 := I1
    grind
/-- The coefficients behind the first of a polynomial through m values. -/
def thr {R : Type} [Lean.Grind.CommRing R] (x : Nat → R) (D : Nat → Nat → R) (xi : Nat → R) (first : R) (v : Nat → R) : Nat → List R
  | 0 => []
  | m + 1 => smN (fun i => wgt x D i (m + 1) * ((v i - first) * xi i)) (m + 1) :: thr x D xi (smN (fun i => wgt x D i (m + 1) * ((v i - first) * xi i)) (m + 1)) (fun i => (v i - first) * xi i) m
theorem thr_length {R : Type} [Lean.Grind.CommRing R] (x : Nat → R) (D : Nat → Nat → R) (xi : Nat → R) : ∀ (m : Nat) (first : R) (v : Nat → R), (thr x D xi first v m).length = m
  | 0, _, _ => rfl
  | m + 1, f, v => by unfold thr; rw [List.length_cons, thr_length x D xi m]
theorem prN_inv {R : Type} [Lean.Grind.CommRing R] {f g : Nat → R} : ∀ {n}, (∀ k, k < n → f k * g k = 1) → prN f n * prN g n = 1
  | 0, _ => by show (1 : R) * 1 = 1; grind
  | n + 1, h => by
    have := prN_inv (f := f) (g := g) (n := n) fun k hk => h k (Nat.lt_succ_of_lt hk)
    have := h n (Nat.lt_succ_self n)
    show prN f n * f n * (prN g n * g n) = 1
    grind
/-- Any values at m places, and any first coefficient. -/
theorem thr_through {R : Type} [Lean.Grind.CommRing R] {x : Nat → R} {D : Nat → Nat → R} {xi : Nat → R} : ∀ {m : Nat}, (∀ k i, k < m → i < m → k ≠ i → (x k - x i) * D k i = 1) → (∀ k, k < m → x k * xi k = 1) → ∀ (first : R) (v : Nat → R) (i : Nat), i < m → evL (first :: thr x D xi first v m) (x i) = v i
  | 0, _, _, _, _, _, h => by omega
  | m + 1, hD, hx, first, v, i, hi => by
    unfold thr
    generalize hf : smN (fun i => wgt x D i (m + 1) * ((v i - first) * xi i)) (m + 1) = f'
    have IH := thr_through (x := x) (D := D) (xi := xi) (m := m) (fun k i hk hi => hD k i (by omega) (by omega)) (fun k hk => hx k (by omega)) f' (fun i => (v i - first) * xi i)
    have L := lag (x := x) (D := D) (m := m + 1) hD (f' :: thr x D xi f' (fun i => (v i - first) * xi i) m) (by rw [List.length_cons, thr_length]; omega)
    generalize hg : (f' :: thr x D xi f' (fun i => (v i - first) * xi i) m) = g at *
    have L0 : evL g 0 = f' := by rw [← hg]; show f' + 0 * _ = f'; grind
    rw [L0] at L
    have L1 : smN (fun i => wgt x D i (m + 1) * evL g (x i)) m = smN (fun i => wgt x D i (m + 1) * ((v i - first) * xi i)) m := smN_congr fun i hi => by rw [IH i hi]
    have L2 : smN (fun i => wgt x D i (m + 1) * evL g (x i)) m + wgt x D m (m + 1) * evL g (x m) = f' := L
    have L3 : smN (fun i => wgt x D i (m + 1) * ((v i - first) * xi i)) m + wgt x D m (m + 1) * ((v m - first) * xi m) = f' := hf
    have hw : ∃ u, u * wgt x D m (m + 1) = 1 := by
      refine ⟨prN xi m * prN (fun k => x k - x m) m, ?_⟩
      rw [wgt_last]
      have p1 := prN_inv (f := x) (g := xi) (n := m) fun k hk => hx k (by omega)
      have p2 := prN_inv (f := fun k => x k - x m) (g := fun k => D k m) (n := m) fun k hk => hD k m (by omega) (by omega) (by omega)
      grind
    obtain ⟨u, hu⟩ := hw
    have last : evL g (x m) = (v m - first) * xi m := by
      rw [L1] at L2
      generalize wgt x D m (m + 1) = W at *
      generalize evL g (x m) = a at *
      generalize (v m - first) * xi m = b at *
      have : W * a = W * b := by grind
      have : u * (W * a) = u * (W * b) := by rw [this]
      grind
    have all : evL g (x i) = (v i - first) * xi i := by
      by_cases e : i = m
      · subst e; exact last
      · exact IH i (by omega)
    show first + x i * evL g (x i) = v i
    rw [all]
    have := hx i hi
    grind
end Go.Proofs.YtnaiccfdbapdpaaDoor

/-
  Lagrange's sum modulo q, over whole numbers: no Go in this text.
-/
import Derived.Test.YtnaiccfdbapdpaaDoorInvMath
import Derived.Test.YtnaiccfdbapdpaaDoorLag
namespace Go.Proofs.YtnaiccfdbapdpaaDoor
theorem li_pow_mod (p a : Int) (n : Nat) : a ^ n % p = (a % p) ^ n % p := by
  induction n with
  | zero => rw [Int.pow_zero, Int.pow_zero]
  | succ n ih => rw [Int.pow_succ, Int.pow_succ, Int.mul_emod, ih, Int.mul_emod ((a % p) ^ n), Int.emod_emod_of_dvd a (Int.dvd_refl _)]
theorem li_ex {p : Nat} (hp : Pr p) (h2 : 2 < p) (a : Int) {v : Int} (hv : v = a ^ (p - 2) % (p : Int)) : 0 ≤ v ∧ v < (p : Int) ∧ (a % (p : Int) = 0 → v = 0) ∧ (a % (p : Int) ≠ 0 → (a * v) % (p : Int) = 1) := by
  subst hv
  refine ⟨Int.emod_nonneg _ (by omega), Int.emod_lt_of_pos _ (by omega), fun h => ?_, fun h => ?_⟩
  · rw [li_pow_mod, h, Int.zero_pow (by omega), Int.zero_emod]
  · have h1 := Int.emod_nonneg a (show (p : Int) ≠ 0 by omega)
    have h3 := Int.emod_lt_of_pos a (show (0 : Int) < p by omega)
    obtain ⟨m, hm⟩ := Int.eq_ofNat_of_zero_le h1
    have hmp : m < p := by rw [hm] at h3; exact_mod_cast h3
    have hnd : ¬ p ∣ m := fun hd => by
      have := Nat.le_of_dvd (by rw [hm] at h; omega) hd
      omega
    have hf := fermat hp hnd
    have hi : m * m ^ (p - 2) % p = 1 := by
      rw [← hf, Nat.mul_comm, ← Nat.pow_succ, show (p - 2).succ = p - 1 from by omega]
    have : ((m : Int) * (m : Int) ^ (p - 2)) % (p : Int) = 1 := by exact_mod_cast hi
    rw [li_pow_mod, hm, Int.mul_emod, Int.emod_emod_of_dvd _ (Int.dvd_refl _), hm]
    rw [Int.mul_emod] at this
    rw [Int.mul_emod, Int.emod_emod_of_dvd _ (Int.dvd_refl _)] at this
    rw [← this]
    congr 2
    · exact (Int.emod_eq_of_lt (by omega) (by exact_mod_cast hmp)).symm
    · exact (Int.emod_emod_of_dvd _ (Int.dvd_refl _)).symm
theorem qn_two : 2 < QN := by decide
/-- The inverse modulo q; 0 of 0. -/
def qiv (A : Int) : Int := A ^ (QN - 2) % FQ
theorem qiv_spec (A : Int) : 0 ≤ qiv A ∧ qiv A < FQ ∧ (A % FQ = 0 → qiv A = 0) ∧ (A % FQ ≠ 0 → (A * qiv A) % FQ = 1) := by
  have h : qiv A = A ^ (QN - 2) % (QN : Int) := by unfold qiv; rw [FQ_nat]
  rw [FQ_nat]; exact li_ex pr_qn qn_two A h
theorem mod_cancel {a v w : Int} (hv : (a * v) % FQ = 1) (hw : (a * w) % FQ = 1) : v % FQ = w % FQ := by
  have e1 : (v * (a * w)) % FQ = v % FQ := by rw [Int.mul_emod, hw, Int.mul_one, Int.emod_emod_of_dvd _ (Int.dvd_refl _)]
  have e2 : (w * (a * v)) % FQ = w % FQ := by rw [Int.mul_emod, hv, Int.mul_one, Int.emod_emod_of_dvd _ (Int.dvd_refl _)]
  rw [← e1, ← e2]; congr 1; grind
theorem qiv_one {A v : Int} (h1 : 0 ≤ v) (h2 : v < FQ) (h3 : A % FQ = 0 → v = 0) (h4 : A % FQ ≠ 0 → (A * v) % FQ = 1) : v = qiv A := by
  have s := qiv_spec A
  by_cases h : A % FQ = 0
  · rw [h3 h, s.2.2.1 h]
  · have := mod_cancel (h4 h) (s.2.2.2 h)
    rwa [Int.emod_eq_of_lt h1 h2, Int.emod_eq_of_lt s.1 s.2.1] at this
theorem qiv_cong {A B : Int} (h : A % FQ = B % FQ) : qiv A = qiv B := by
  have s := qiv_spec A
  refine qiv_one s.1 s.2.1 (fun e => s.2.2.1 (h.trans e)) (fun e => ?_)
  have := s.2.2.2 (by rw [h]; exact e)
  rwa [Int.mul_emod, h, ← Int.mul_emod] at this
/-- An inverse as the calls hand it out. -/
theorem invP_qiv {A r0 r1 r2 r3 : Int} (h : InvP A r0 r1 r2 r3) : QMod (qiv A) r0 r1 r2 r3 := by
  have e := qiv_one (val_bd h.1).1 h.2.1 h.2.2.1 h.2.2.2
  exact ⟨h.1, by rw [← e]; exact (Int.emod_eq_of_lt (val_bd h.1).1 h.2.1).symm⟩
/-- The places differ modulo q. -/
def Dis (x : Nat → Int) (m : Nat) : Prop := ∀ k i, k < m → i < m → k ≠ i → (x k - x i) % FQ ≠ 0
/-- A share's weight, as a whole number. -/
def wI (x : Nat → Int) (i m : Nat) : Int := prE x i m * qiv (prE (fun k => x k - x i) i m)
open Lean.Grind
/-- A whole number in the ring. -/
def ci (R : Type) [CommRing R] (a : Int) : R := (Ring.intCast (α := R)).intCast a
theorem ci_add (R : Type) [CommRing R] (a b : Int) : ci R (a + b) = ci R a + ci R b := Ring.intCast_add a b
theorem ci_sub (R : Type) [CommRing R] (a b : Int) : ci R (a - b) = ci R a - ci R b := Ring.intCast_sub a b
theorem ci_mul (R : Type) [CommRing R] (a b : Int) : ci R (a * b) = ci R a * ci R b := Ring.intCast_mul a b
theorem ci_eq (R : Type) [CommRing R] [IsCharP R QN] {a b : Int} : (ci R (a)) = (ci R b) ↔ a % FQ = b % FQ := by
  rw [FQ_nat]; exact IsCharP.intCast_ext_iff QN
theorem ci_mod (R : Type) [CommRing R] [IsCharP R QN] (a : Int) : (ci R (a % FQ)) = (ci R a) := (ci_eq R).2 (Int.emod_emod_of_dvd _ (Int.dvd_refl _))
theorem ci_one (R : Type) [CommRing R] : (ci R (1)) = 1 := Ring.intCast_one
theorem ci_zero (R : Type) [CommRing R] : (ci R (0)) = 0 := Ring.intCast_zero
theorem ci_ne (R : Type) [CommRing R] [IsCharP R QN] : (1 : R) ≠ 0 := by
  rw [← ci_one R, ← ci_zero R]
  intro h
  have := (ci_eq R).1 h
  revert this
  decide
theorem ci_prE (R : Type) [CommRing R] [IsCharP R QN] (f : Nat → Int) (i : Nat) : ∀ n, (ci R (prE f i n)) = prE (fun k => (ci R (f k))) i n
  | 0 => ci_one R
  | n + 1 => by
    show (ci R (if n = i then prE f i n else prE f i n * f n)) = if n = i then prE (fun k => (ci R (f k))) i n else prE (fun k => (ci R (f k))) i n * (ci R (f n))
    by_cases e : n = i
    · rw [if_pos e, if_pos e]; exact ci_prE R f i n
    · rw [if_neg e, if_neg e, ci_mul, ci_prE R f i n]
theorem ci_smN (R : Type) [CommRing R] [IsCharP R QN] (f : Nat → Int) : ∀ n, (ci R (smN f n)) = smN (fun k => (ci R (f k))) n
  | 0 => ci_zero R
  | n + 1 => by
    show (ci R (smN f n + f n)) = smN (fun k => (ci R (f k))) n + (ci R (f n))
    rw [ci_add, ci_smN R f n]
theorem ci_evL (R : Type) [CommRing R] [IsCharP R QN] (x : Int) : ∀ c : List Int, (ci R (evL c x)) = evL (c.map fun a => (ci R (a))) (ci R x)
  | [] => ci_zero R
  | a :: c => by
    show (ci R (a + x * evL c x)) = (ci R (a)) + (ci R x) * evL (c.map fun a => (ci R (a))) (ci R x)
    rw [ci_add, ci_mul, ci_evL R x c]
theorem ci_inv (R : Type) [CommRing R] [IsCharP R QN] {a : Int} (h : a % FQ ≠ 0) : (ci R (a)) * (ci R (qiv a)) = 1 := by
  rw [← ci_mul, ← ci_one R]
  refine (ci_eq R).2 ?_
  rw [(qiv_spec a).2.2.2 h]; decide
theorem ci_D (R : Type) [CommRing R] [IsCharP R QN] {x : Nat → Int} {m : Nat} (hD : Dis x m) : ∀ k i, k < m → i < m → k ≠ i → ((ci R (x k)) - (ci R (x i))) * (ci R (qiv (x k - x i))) = 1 := by
  intro k i hk hi hne
  rw [← ci_sub]
  exact ci_inv R (hD k i hk hi hne)
theorem ci_wI (R : Type) [CommRing R] [IsCharP R QN] {x : Nat → Int} {m i : Nat} (hD : Dis x m) (hi : i < m) : (ci R (wI x i m)) = wgt (fun k => (ci R (x k))) (fun k i => (ci R (qiv (x k - x i)))) i m := by
  unfold wI wgt
  rw [ci_mul, ci_prE]
  congr 1
  have p : (ci R (prE (fun k => x k - x i) i m)) * prE (fun k => (ci R (qiv (x k - x i)))) i m = 1 := by
    rw [ci_prE, ← prE_mul]
    refine prE_one fun k hk hne => ?_
    exact ci_inv R (hD k i hk hi hne)
  have hn : prE (fun k => x k - x i) i m % FQ ≠ 0 := by
    intro h0
    have : (ci R (prE (fun k => x k - x i) i m)) = 0 := by
      rw [← ci_zero R]; exact (ci_eq R).2 (by rw [h0]; decide)
    rw [this] at p
    exact ci_ne R (by grind)
  have q := ci_inv R hn
  generalize (ci R (prE (fun k => x k - x i) i m)) = a at *
  generalize (ci R (qiv (prE (fun k => x k - x i) i m))) = b at *
  generalize prE (fun k => (ci R (qiv (x k - x i)))) i m = c at *
  grind
theorem ci_lag (R : Type) [CommRing R] [IsCharP R QN] {x : Nat → Int} {m : Nat} (hD : Dis x m) (c : List Int) (hc : c.length ≤ m) (v : Nat → Int) (hv : ∀ i, i < m → v i % FQ = evL c (x i) % FQ) : (ci R (smN (fun i => wI x i m * v i) m)) = (ci R (evL c 0)) := by
  rw [ci_smN, ci_evL, ci_zero, ← lag (ci_D R hD) _ (by simpa using hc)]
  refine smN_congr fun i hi => ?_
  rw [ci_mul, ci_wI R hD hi, (ci_eq R).2 (hv i hi), ci_evL]
/-- The coefficients behind the first, as whole numbers. -/
def thrI (x : Nat → Int) (first : Int) (v : Nat → Int) : Nat → List Int
  | 0 => []
  | m + 1 => smN (fun i => wI x i (m + 1) * ((v i - first) * qiv (x i) % FQ)) (m + 1) % FQ :: thrI x (smN (fun i => wI x i (m + 1) * ((v i - first) * qiv (x i) % FQ)) (m + 1) % FQ) (fun i => (v i - first) * qiv (x i) % FQ) m
theorem thrI_length (x : Nat → Int) : ∀ (m : Nat) (first : Int) (v : Nat → Int), (thrI x first v m).length = m
  | 0, _, _ => rfl
  | m + 1, f, v => by unfold thrI; rw [List.length_cons, thrI_length x m]
theorem thr_congr (R : Type) [CommRing R] (x : Nat → R) (D : Nat → Nat → R) (xi : Nat → R) {v v' : Nat → R} : ∀ {m : Nat} {first : R}, (∀ i, i < m → v i = v' i) → thr x D xi first v m = thr x D xi first v' m
  | 0, _, _ => rfl
  | m + 1, first, h => by
    unfold thr
    have e : smN (fun i => wgt x D i (m + 1) * ((v i - first) * xi i)) (m + 1) = smN (fun i => wgt x D i (m + 1) * ((v' i - first) * xi i)) (m + 1) := smN_congr fun i hi => by rw [h i hi]
    rw [e, thr_congr R x D xi (m := m) fun i hi => by rw [h i (by omega)]]
theorem ci_thr (R : Type) [CommRing R] [IsCharP R QN] {x : Nat → Int} : ∀ {m : Nat}, Dis x m → ∀ (first : Int) (v : Nat → Int), (thrI x first v m).map (fun a => (ci R (a))) = thr (fun k => (ci R (x k))) (fun k i => (ci R (qiv (x k - x i)))) (fun k => (ci R (qiv (x k)))) (ci R first) (fun k => (ci R (v k))) m
  | 0, _, _, _ => rfl
  | m + 1, hD, first, v => by
    unfold thrI thr
    rw [List.map_cons]
    have l : ∀ i, (ci R ((v i - first) * qiv (x i) % FQ)) = ((ci R (v i)) - (ci R first)) * (ci R (qiv (x i))) := fun i => by
      rw [ci_mod, ci_mul, ci_sub]
    have e : (ci R (smN (fun i => wI x i (m + 1) * ((v i - first) * qiv (x i) % FQ)) (m + 1) % FQ)) = smN (fun i => wgt (fun k => (ci R (x k))) (fun k i => (ci R (qiv (x k - x i)))) i (m + 1) * (((ci R (v i)) - (ci R first)) * (ci R (qiv (x i))))) (m + 1) := by
      rw [ci_mod, ci_smN]
      refine smN_congr fun i hi => ?_
      rw [ci_mul, ci_wI R hD hi, l i]
    rw [ci_thr R (m := m) (fun k i hk hi => hD k i (by omega) (by omega)), e]
    congr 1
    exact thr_congr R _ _ _ fun i _ => l i
theorem ci_through (R : Type) [CommRing R] [IsCharP R QN] {x : Nat → Int} {m : Nat} (hD : Dis x m) (hx : ∀ k, k < m → x k % FQ ≠ 0) (first : Int) (v : Nat → Int) (i : Nat) (hi : i < m) : (ci R (evL (first :: thrI x first v m) (x i))) = (ci R (v i)) := by
  rw [ci_evL, List.map_cons, ci_thr R hD]
  exact thr_through (ci_D R hD) (fun k hk => ci_inv R (hx k hk)) (ci R first) (fun k => (ci R (v k))) i hi
theorem qn_zero : NeZero QN := ⟨by decide⟩
theorem lagI {x : Nat → Int} {m : Nat} (hD : Dis x m) (c : List Int) (hc : c.length ≤ m) (v : Nat → Int) (hv : ∀ i, i < m → v i % FQ = evL c (x i) % FQ) : smN (fun i => wI x i m * v i) m % FQ = evL c 0 % FQ :=
  haveI := qn_zero
  (ci_eq (Fin QN)).1 (ci_lag (Fin QN) hD c hc v hv)
theorem throughI {x : Nat → Int} {m : Nat} (hD : Dis x m) (hx : ∀ k, k < m → x k % FQ ≠ 0) (first : Int) (v : Nat → Int) (i : Nat) (hi : i < m) : evL (first :: thrI x first v m) (x i) % FQ = v i % FQ :=
  haveI := qn_zero
  (ci_eq (Fin QN)).1 (ci_through (Fin QN) hD hx first v i hi)
end Go.Proofs.YtnaiccfdbapdpaaDoor

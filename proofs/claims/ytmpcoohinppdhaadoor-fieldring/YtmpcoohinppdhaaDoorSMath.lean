/-
  Inverses and roots modulo a prime that is 3 modulo 4, over whole numbers: no Go in this text.
-/
import Derived.Test.YtmpcoohinppdhaaDoorFMath
import Derived.Test.YtmpcoohinppdhaaDoorPrimes
import Derived.Test.YtmpcoohinppdhaaDoorRoots
namespace Go.Proofs.YtmpcoohinppdhaaDoor
theorem g_pow_mod (p a : Int) (n : Nat) : a ^ n % p = (a % p) ^ n % p := by
  induction n with
  | zero => rw [Int.pow_zero, Int.pow_zero]
  | succ n ih => rw [Int.pow_succ, Int.pow_succ, Int.mul_emod, ih, Int.mul_emod ((a % p) ^ n), Int.emod_emod_of_dvd a (Int.dvd_refl _)]
theorem g_nat_of (p : Nat) (hp : 0 < p) (a : Int) : ∃ m : Nat, m < p ∧ a % (p : Int) = (m : Int) := by
  have h1 := Int.emod_nonneg a (show (p : Int) ≠ 0 by omega)
  have h2 := Int.emod_lt_of_pos a (show (0 : Int) < p by omega)
  obtain ⟨m, hm⟩ := Int.eq_ofNat_of_zero_le h1
  exact ⟨m, by rw [hm] at h2; exact_mod_cast h2, hm⟩
theorem g_root_nat {p q m : Nat} {A : Int} (h : A % (p : Int) = (m : Int)) : (A ^ q * A ^ q) % (p : Int) = A % p ↔ m ^ q * m ^ q % p = m % p := by
  have e1 : (A ^ q * A ^ q) % (p : Int) = (((m ^ q * m ^ q % p : Nat)) : Int) := by
    rw [Int.mul_emod, g_pow_mod, ← Int.mul_emod, h]
    push_cast
    rfl
  have e2 : A % (p : Int) = ((m % p : Nat) : Int) := by
    have : A % (p : Int) % p = (m : Int) % p := by rw [h]
    rw [Int.emod_emod_of_dvd _ (Int.dvd_refl _)] at this
    rw [this]
    push_cast
    rfl
  rw [e1, e2]
  exact ⟨fun k => by exact_mod_cast k, fun k => by exact_mod_cast k⟩
theorem g_root_of {p q : Nat} (hp : Pr p) (h4 : p % 4 = 3) (hq : (p + 1) / 4 = q) {A y : Int} (h : (y * y) % (p : Int) = A % p) : (A ^ q * A ^ q) % (p : Int) = A % p := by
  obtain ⟨b, hb, eb⟩ := g_nat_of p (by have := hp.1; omega) y
  have e : A % (p : Int) = (((b * b) % p : Nat) : Int) := by
    rw [← h, Int.mul_emod, eb]
    push_cast
    rfl
  rw [g_root_nat e]
  have hr := root_square (b := b) hp h4
  rw [hq] at hr
  have k1 : (b * b % p) ^ q % p = (b * b) ^ q % p := (Nat.pow_mod _ _ _).symm
  rw [Nat.mul_mod, k1, ← Nat.mul_mod, hr, Nat.mod_mod]
theorem g_roots_two {p : Nat} (hp : Pr p) {x y : Int} (h : (x * x) % (p : Int) = (y * y) % p) : x % (p : Int) = y % p ∨ (x + y) % (p : Int) = 0 := by
  obtain ⟨a, ha, ea⟩ := g_nat_of p (by have := hp.1; omega) x
  obtain ⟨b, hb, eb⟩ := g_nat_of p (by have := hp.1; omega) y
  have h2 : a * a % p = b * b % p := by
    rw [Int.mul_emod, ea, Int.mul_emod y y, eb] at h
    exact_mod_cast h
  rcases square_two hp h2 with h3 | h3
  · left
    rw [ea, eb]
    rw [Nat.mod_eq_of_lt ha, Nat.mod_eq_of_lt hb] at h3
    rw [h3]
  · right
    rw [Int.add_emod, ea, eb]
    exact_mod_cast h3
theorem g_not_dvd {p m : Nat} (hm : m < p) (h : (m : Int) ≠ 0) : ¬ p ∣ m := by
  intro hd
  have := Nat.le_of_dvd (by omega) hd
  omega
theorem g_root_one {p q : Nat} (hp : Pr p) (h4 : p % 4 = 3) (hq : (p + 1) / 4 = q) {a b : Int} (h : (a + b) % (p : Int) = 0) (ha : a % (p : Int) ≠ 0) : (a ^ q * a ^ q) % (p : Int) = a % p ↔ ¬ (b ^ q * b ^ q) % (p : Int) = b % p := by
  obtain ⟨m, hm, em⟩ := g_nat_of p (by have := hp.1; omega) a
  obtain ⟨k, hk, ek⟩ := g_nat_of p (by have := hp.1; omega) b
  rw [g_root_nat em, g_root_nat ek]
  have hab : (m + k) % p = 0 := by
    rw [Int.add_emod, em, ek] at h
    exact_mod_cast h
  have hm0 : ¬ p ∣ m := g_not_dvd hm (by rw [← em]; exact ha)
  have hk0 : ¬ p ∣ k := fun hd => hm0 ((Nat.dvd_add_left hd).1 (Nat.dvd_of_mod_eq_zero hab))
  have := root_one_of hp h4 hm0 hk0 hab
  rw [hq] at this
  exact this
theorem g_inv {p : Nat} (hp : Pr p) {a : Int} (ha : a % (p : Int) ≠ 0) : (a * a ^ (p - 2)) % (p : Int) = 1 := by
  obtain ⟨m, hm, em⟩ := g_nat_of p (by have := hp.1; omega) a
  have hi := inv_pow hp (g_not_dvd hm (by rw [← em]; exact ha))
  rw [Int.mul_emod, g_pow_mod, ← Int.mul_emod, em]
  have : (a % (p : Int) * (m : Int) ^ (p - 2)) % (p : Int) = 1 := by rw [em]; exact_mod_cast hi
  rw [Int.mul_emod, Int.emod_emod_of_dvd _ (Int.dvd_refl _), em] at this
  rw [Int.mul_emod, em]
  exact this
/-- p, as a natural number. -/
def PN : Nat := 115792089210356248762697446949407573530086143415290314195533631308867097853951
theorem FP_nat : FP = (PN : Int) := by decide
theorem pr_pn : Pr PN := pr_p
theorem PN4 : PN % 4 = 3 := by decide
/-- (p + 1) / 4. -/
def RQ : Nat := 28948022302589062190674361737351893382521535853822578548883407827216774463488
theorem RQ_eq : (PN + 1) / 4 = RQ := by decide
/-- p - 2. -/
def IQ : Nat := PN - 2
theorem val_root : (val 0 1073741824 4611686018427387904 4611686017353646080).toNat = RQ := by decide
theorem lim_root : Lim4 0 1073741824 4611686018427387904 4611686017353646080 := by unfold Lim4 Lim; decide
theorem val_inv : (val 18446744073709551613 4294967295 0 18446744069414584321).toNat = IQ := by decide
theorem lim_inv : Lim4 18446744073709551613 4294967295 0 18446744069414584321 := by unfold Lim4 Lim; decide
/-- The power by (p + 1) / 4 is a root. -/
def RootQ (A : Int) : Prop := (A ^ RQ * A ^ RQ) % FP = A % FP
theorem rootQ_of {A y : Int} (h : (y * y) % FP = A % FP) : RootQ A := by
  unfold RootQ
  rw [FP_nat] at h ⊢
  exact g_root_of pr_pn PN4 RQ_eq h
theorem roots_two {x y : Int} (h : (x * x) % FP = (y * y) % FP) : x % FP = y % FP ∨ (x + y) % FP = 0 := by
  rw [FP_nat] at h ⊢
  exact g_roots_two pr_pn h
/-- Of a number and its opposite, but 0, just one has a root. -/
theorem rootQ_one {a b : Int} (h : (a + b) % FP = 0) (ha : a % FP ≠ 0) : RootQ a ↔ ¬ RootQ b := by
  unfold RootQ
  rw [FP_nat] at h ha ⊢
  exact g_root_one pr_pn PN4 RQ_eq h ha
/-- The power by p - 2 is the inverse. -/
theorem inv_ok {a : Int} (ha : a % FP ≠ 0) : (a * a ^ IQ) % FP = 1 := by
  rw [FP_nat] at ha ⊢
  exact g_inv pr_pn ha
/-- What Sqrt answers. -/
def SqrtP (A r0 r1 r2 r3 : Int) (ok : Bool) : Prop := Lim4 r0 r1 r2 r3 ∧ val r0 r1 r2 r3 < FP ∧ (ok = true ↔ RootQ A) ∧ (ok = true → val r0 r1 r2 r3 % 2 = 0 ∧ (val r0 r1 r2 r3 * val r0 r1 r2 r3) % FP = A % FP) ∧ (ok = false → val r0 r1 r2 r3 = 0)
theorem none_aux {A Y t0 t1 t2 t3 m0 m1 m2 m3 l0 l1 l2 l3 : Int} (ht : FMod Y t0 t1 t2 t3) (hm : FMod (val t0 t1 t2 t3 * val t0 t1 t2 t3) m0 m1 m2 m3) (hl : FMod A l0 l1 l2 l3) (h : (Y * Y) % FP = A % FP) : val m0 m1 m2 m3 = val l0 l1 l2 l3 := by
  rw [hm.2, hl.2, ht.2, mod_mul_mod, mul_mod_mod, h]
theorem sqrt_none {A t0 t1 t2 t3 m0 m1 m2 m3 l0 l1 l2 l3 : Int} (ht : FMod (A ^ RQ) t0 t1 t2 t3) (hm : FMod (val t0 t1 t2 t3 * val t0 t1 t2 t3) m0 m1 m2 m3) (hl : FMod A l0 l1 l2 l3) (hne : ¬ val m0 m1 m2 m3 = val l0 l1 l2 l3) : SqrtP A 0 0 0 0 false := by
  exact ⟨by unfold Lim4 Lim; decide, by decide, ⟨fun h => by simp at h, fun h => absurd (none_aux ht hm hl h) hne⟩, fun h => by simp at h, fun _ => by decide⟩
theorem root_ok {A t0 t1 t2 t3 m0 m1 m2 m3 l0 l1 l2 l3 : Int} (hm : FMod (val t0 t1 t2 t3 * val t0 t1 t2 t3) m0 m1 m2 m3) (hl : FMod A l0 l1 l2 l3) (he : val m0 m1 m2 m3 = val l0 l1 l2 l3) : RootQ A ∧ (val t0 t1 t2 t3 * val t0 t1 t2 t3) % FP = A % FP := by
  have h : (val t0 t1 t2 t3 * val t0 t1 t2 t3) % FP = A % FP := by rw [← hm.2, ← hl.2, he]
  exact ⟨rootQ_of h, h⟩
theorem val_odd (t0 t1 t2 t3 : Int) : val t0 t1 t2 t3 % 2 = t0 % 2 := by
  unfold val
  omega
theorem sqrt_even {A Y t0 t1 t2 t3 m0 m1 m2 m3 l0 l1 l2 l3 : Int} (ht : FMod Y t0 t1 t2 t3) (hm : FMod (val t0 t1 t2 t3 * val t0 t1 t2 t3) m0 m1 m2 m3) (hl : FMod A l0 l1 l2 l3) (he : val m0 m1 m2 m3 = val l0 l1 l2 l3) (h0 : t0 % 2 = 0) : SqrtP A t0 t1 t2 t3 true := by
  obtain ⟨h1, h2⟩ := root_ok hm hl he
  exact ⟨ht.1, ht.less, ⟨fun _ => h1, fun _ => rfl⟩, fun _ => ⟨by rw [val_odd]; exact h0, h2⟩, fun h => by simp at h⟩
theorem sqrt_odd {A Y t0 t1 t2 t3 m0 m1 m2 m3 l0 l1 l2 l3 r0 r1 r2 r3 : Int} (ht : FMod Y t0 t1 t2 t3) (hm : FMod (val t0 t1 t2 t3 * val t0 t1 t2 t3) m0 m1 m2 m3) (hl : FMod A l0 l1 l2 l3) (he : val m0 m1 m2 m3 = val l0 l1 l2 l3) (h0 : t0 % 2 = 1) (hr : FMod (FP - val t0 t1 t2 t3) r0 r1 r2 r3) : SqrtP A r0 r1 r2 r3 true := by
  obtain ⟨h1, h2⟩ := root_ok hm hl he
  have ho := val_odd t0 t1 t2 t3
  have hlt := ht.less
  have hb := val_bd ht.1
  have hv : val r0 r1 r2 r3 = FP - val t0 t1 t2 t3 := by
    rw [hr.2]
    exact Int.emod_eq_of_lt (by omega) (by omega)
  refine ⟨hr.1, hr.less, ⟨fun _ => h1, fun _ => rfl⟩, fun _ => ⟨?_, ?_⟩, fun h => by simp at h⟩
  · rw [hv]
    have : FP % 2 = 1 := by decide
    omega
  · rw [hv, ← h2]
    refine emod_of (FP - 2 * val t0 t1 t2 t3) ?_
    generalize val t0 t1 t2 t3 = t
    generalize FP = p
    grind
/-- The even root below p of a square is one. -/
theorem root_even_one {x y : Int} (hx0 : 0 ≤ x) (hx : x < FP) (hy0 : 0 ≤ y) (hy : y < FP) (ex : x % 2 = 0) (ey : y % 2 = 0) (h : (x * x) % FP = (y * y) % FP) : x = y := by
  rcases roots_two h with h1 | h1
  · rwa [Int.emod_eq_of_lt hx0 hx, Int.emod_eq_of_lt hy0 hy] at h1
  · have h3 : FP % 2 = 1 := by decide
    have : x + y = 0 ∨ x + y = FP := by
      clear h ex ey h3
      unfold FP at *
      omega
    rcases this with h2 | h2
    · omega
    · omega
end Go.Proofs.YtmpcoohinppdhaaDoor

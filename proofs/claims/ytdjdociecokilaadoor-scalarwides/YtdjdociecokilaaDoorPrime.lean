/-
  Primes, without Go: prime divisors, Euclid's lemma, Fermat's little theorem, and a test by a known factor of n - 1 (Pocklington).
-/
namespace Go.Proofs.YtdjdociecokilaaDoor
/-- A prime. -/
def Pr (n : Nat) : Prop := 2 ≤ n ∧ ∀ d, d ∣ n → d = 1 ∨ d = n
theorem Pr.coprime {p a : Nat} (hp : Pr p) (h : ¬ p ∣ a) : Nat.Coprime p a := by
  rcases hp.2 (Nat.gcd p a) (Nat.gcd_dvd_left p a) with h1 | h1
  · exact h1
  · exact absurd (h1 ▸ Nat.gcd_dvd_right p a) h
theorem Pr.mul {p a b : Nat} (hp : Pr p) (h : p ∣ a * b) : p ∣ a ∨ p ∣ b := by
  by_cases ha : p ∣ a
  · exact .inl ha
  · exact .inr (Nat.Coprime.dvd_of_dvd_mul_left (hp.coprime ha) h)
theorem Pr.pow {p a : Nat} (hp : Pr p) : ∀ {n : Nat}, p ∣ a ^ n → p ∣ a := by
  intro n
  induction n with
  | zero => intro h; rw [Nat.pow_zero] at h; have := Nat.le_of_dvd (by decide) h; have := hp.1; omega
  | succ n ih => intro h; rw [Nat.pow_succ] at h; rcases hp.mul h with h | h; exact ih h; exact h
/-- Every number from 2 on that is no prime has a prime divisor whose square is not greater. -/
theorem prime_divisor : ∀ n : Nat, 2 ≤ n → ∃ r, Pr r ∧ r ∣ n ∧ (¬ Pr n → r * r ≤ n) := by
  intro n
  induction n using Nat.strongRecOn with
  | _ n ih =>
    intro hn
    by_cases hp : Pr n
    · exact ⟨n, hp, Nat.dvd_refl n, fun h => absurd hp h⟩
    · have : ∃ d, d ∣ n ∧ d ≠ 1 ∧ d ≠ n := by
        refine Classical.byContradiction fun hc => hp ⟨hn, fun d hd => ?_⟩
        by_cases h1 : d = 1
        · exact .inl h1
        · by_cases h2 : d = n
          · exact .inr h2
          · exact absurd ⟨d, hd, h1, h2⟩ hc
      obtain ⟨d, hd, h1, h2⟩ := this
      obtain ⟨e, he⟩ := hd
      have hd0 : d ≠ 0 := by intro h; subst h; simp at he; omega
      have he0 : e ≠ 0 := by intro h; subst h; simp at he; omega
      have he1 : e ≠ 1 := by intro h; subst h; simp at he; omega
      have hdn : d < n := by
        rw [he]
        exact (Nat.lt_mul_iff_one_lt_right (by omega)).2 (by omega)
      have hen : e < n := by
        rw [he]
        exact (Nat.lt_mul_iff_one_lt_left (by omega)).2 (by omega)
      rcases Nat.le_total d e with hle | hle
      · obtain ⟨r, hr, hrd, _⟩ := ih d hdn (by omega)
        refine ⟨r, hr, Nat.dvd_trans hrd ⟨e, he⟩, fun _ => ?_⟩
        have := Nat.le_of_dvd (by omega) hrd
        rw [he]
        exact Nat.mul_le_mul this (Nat.le_trans this hle)
      · obtain ⟨r, hr, hrd, _⟩ := ih e hen (by omega)
        refine ⟨r, hr, Nat.dvd_trans hrd ⟨d, by rw [Nat.mul_comm]; exact he⟩, fun _ => ?_⟩
        have := Nat.le_of_dvd (by omega) hrd
        rw [he]
        exact Nat.mul_le_mul (Nat.le_trans this hle) this
/-- Two lists without repeats, one within the other and as long: the same up to order. -/
theorem perm_of_sub : ∀ (l k : List Nat), l.Nodup → l ⊆ k → k.length ≤ l.length → l.Perm k := by
  intro l
  induction l with
  | nil => intro k _ _ h; have : k = [] := List.eq_nil_of_length_eq_zero (by simpa using h); subst this; exact List.Perm.refl _
  | cons a l ih =>
    intro k hn hs hl
    have ha : a ∈ k := hs (List.mem_cons_self)
    have hk := List.perm_cons_erase ha
    refine List.Perm.trans (List.Perm.cons a (ih (k.erase a) (List.nodup_cons.1 hn).2 ?_ ?_)) hk.symm
    · intro x hx
      have hxa : x ≠ a := fun e => (List.nodup_cons.1 hn).1 (e ▸ hx)
      exact (List.mem_erase_of_ne hxa).2 (hs (List.mem_cons_of_mem a hx))
    · rw [List.length_erase_of_mem ha]
      simp at hl
      omega
theorem prod_map_mod (a p : Nat) (l : List Nat) : (l.map fun x => a * x % p).prod % p = a ^ l.length * l.prod % p := by
  induction l with
  | nil => simp
  | cons x l ih =>
    simp only [List.map_cons, List.prod_cons, List.length_cons]
    rw [Nat.mul_mod, ih, Nat.mod_mod, ← Nat.mul_mod, Nat.pow_succ]
    congr 1
    generalize a ^ l.length = q
    generalize l.prod = r
    grind
theorem prime_not_prod {p : Nat} (hp : Pr p) : ∀ l : List Nat, (∀ x ∈ l, 1 ≤ x ∧ x < p) → ¬ p ∣ l.prod := by
  intro l
  induction l with
  | nil => intro _ h; have := Nat.le_of_dvd (by decide) h; have := hp.1; simp at *; omega
  | cons x l ih =>
    intro hl h
    rw [List.prod_cons] at h
    rcases hp.mul h with h | h
    · have := hl x (List.mem_cons_self)
      have := Nat.le_of_dvd (by omega) h
      omega
    · exact ih (fun y hy => hl y (List.mem_cons_of_mem x hy)) h
/-- Fermat's little theorem. -/
theorem fermat {p a : Nat} (hp : Pr p) (ha : ¬ p ∣ a) : a ^ (p - 1) % p = 1 := by
  have h2 := hp.1
  let L := List.range' 1 (p - 1)
  have hL : ∀ x, x ∈ L ↔ 1 ≤ x ∧ x < p := by
    intro x
    show x ∈ List.range' 1 (p - 1) ↔ _
    rw [List.mem_range'_1]
    omega
  have hlen : L.length = p - 1 := List.length_range'
  have hnd : L.Nodup := List.nodup_range' 1
  have key : ∀ x y, x ∈ L → y ∈ L → x < y → a * x % p ≠ a * y % p := by
    intro x y hx hy hxy he
    have hx' := (hL x).1 hx
    have hy' := (hL y).1 hy
    have : p ∣ a * (y - x) := by
      rw [Nat.mul_sub]
      exact Nat.dvd_of_mod_eq_zero (Nat.sub_mod_eq_zero_of_mod_eq he.symm)
    rcases hp.mul this with h | h
    · exact ha h
    · have := Nat.le_of_dvd (by omega) h
      omega
  have hnd' : (L.map fun x => a * x % p).Nodup := by
    rw [List.Nodup, List.pairwise_map]
    refine List.Pairwise.imp_of_mem ?_ hnd
    intro x y hx hy hxy
    rcases Nat.lt_or_gt_of_ne hxy with h | h
    · exact key x y hx hy h
    · exact fun e => key y x hy hx h e.symm
  have hsub : (L.map fun x => a * x % p) ⊆ L := by
    intro z hz
    obtain ⟨x, hx, rfl⟩ := List.mem_map.1 hz
    have hx' := (hL x).1 hx
    refine (hL _).2 ⟨?_, Nat.mod_lt _ (by omega)⟩
    refine Nat.pos_of_ne_zero fun h => ?_
    rcases hp.mul (Nat.dvd_of_mod_eq_zero h) with h | h
    · exact ha h
    · have := Nat.le_of_dvd (by omega) h
      omega
  have hperm := perm_of_sub _ L hnd' hsub (by simp)
  have hprod := hperm.prod_nat
  have hm := prod_map_mod a p L
  rw [hprod, hlen] at hm
  have hnp : ¬ p ∣ L.prod := prime_not_prod hp L (fun x hx => (hL x).1 hx)
  have hpos : 1 ≤ a ^ (p - 1) := Nat.one_le_pow _ _ (Nat.pos_of_ne_zero fun h => ha (h ▸ Nat.dvd_zero p))
  have hd : p ∣ (a ^ (p - 1) - 1) * L.prod := by
    rw [Nat.sub_mul, Nat.one_mul]
    exact Nat.dvd_of_mod_eq_zero (Nat.sub_mod_eq_zero_of_mod_eq hm.symm)
  rcases hp.mul hd with h | h
  · obtain ⟨c, hc⟩ := h
    have : a ^ (p - 1) = p * c + 1 := by omega
    rw [this, Nat.mul_add_mod]
    exact Nat.mod_eq_of_lt (by omega)
  · exact absurd h hnp
/-- a^n % p by squares; f: how many bits n has at most. -/
def pm (N : Nat) : Nat → Nat → Nat → Nat
  | 0, _, _ => 1 % N
  | f + 1, b, e => match e % 2 with
    | 0 => pm N f (b * b % N) (e / 2)
    | _ => b * pm N f (b * b % N) (e / 2) % N
theorem pm_eq (N : Nat) : ∀ (f b e : Nat), e < 2 ^ f → pm N f b e = b ^ e % N := by
  intro f
  induction f with
  | zero => intro b e h; have : e = 0 := by simp at h; omega
            subst this; simp [pm]
  | succ f ih =>
    intro b e h
    have h2 : e / 2 < 2 ^ f := by rw [Nat.pow_succ] at h; omega
    have he : e = 2 * (e / 2) + e % 2 := by omega
    have hsq : (b * b % N) ^ (e / 2) % N = b ^ (2 * (e / 2)) % N := by
      rw [← Nat.pow_mod, Nat.pow_mul]
      congr 2
      rw [Nat.pow_succ, Nat.pow_one]
    unfold pm
    rcases Nat.mod_two_eq_zero_or_one e with h0 | h0
    · rw [h0]
      simp only []
      rw [ih _ _ h2, hsq]
      congr 2
      omega
    · rw [h0]
      simp only []
      rw [ih _ _ h2, hsq, Nat.mul_mod, Nat.mod_mod, ← Nat.mul_mod]
      congr 1
      rw [Nat.mul_comm, ← Nat.pow_succ]
      congr 1
      omega
/-- What is 1 at two exponents is 1 at their greatest common divisor. -/
theorem pow_gcd {r a : Nat} (hr : Pr r) : ∀ m n : Nat, a ^ m % r = 1 → a ^ n % r = 1 → a ^ (Nat.gcd m n) % r = 1 := by
  have one : 1 % r = 1 := Nat.mod_eq_of_lt hr.1
  intro m
  induction m using Nat.strongRecOn with
  | _ m ih =>
    intro n hm hn
    by_cases h0 : m = 0
    · subst h0; rw [Nat.gcd_zero_left]; exact hn
    · rw [Nat.gcd_rec]
      refine ih (n % m) (Nat.mod_lt _ (by omega)) m ?_ hm
      have e : n = m * (n / m) + n % m := by rw [Nat.div_add_mod]
      rw [e, Nat.pow_add, Nat.pow_mul, Nat.mul_mod, Nat.pow_mod, hm, Nat.one_pow, one, Nat.one_mul, Nat.mod_mod] at hn
      exact hn
theorem mod_one_dvd {r x : Nat} (h : x % r = 1) : r ∣ x - 1 := by
  have := Nat.div_add_mod x r
  exact ⟨x / r, by omega⟩
/-- The step of the test: q, a prime factor of N - 1, divides r - 1 for every prime divisor r of N. -/
theorem pock_step {N q m a f : Nat} (hN : 2 ≤ N) (hq : Pr q) (hm : N - 1 = q * m) (hf : N < 2 ^ f) (h1 : pm N f a (N - 1) = 1) (h2 : Nat.gcd (pm N f a m + N - 1) N = 1) : ∀ r, Pr r → r ∣ N → q ∣ r - 1 := by
  intro r hr hrN
  have hml : m < 2 ^ f := by
    have hq2 := hq.1
    have : m ≤ q * m := Nat.le_mul_of_pos_left m (by omega)
    omega
  rw [pm_eq N f a (N - 1) (by omega)] at h1
  rw [pm_eq N f a m hml] at h2
  have hr2 := hr.1
  have h1r : a ^ (N - 1) % r = 1 := by
    have := mod_one_dvd h1
    have hd : r ∣ a ^ (N - 1) - 1 := Nat.dvd_trans hrN this
    have hp : 1 ≤ a ^ (N - 1) := by
      refine Nat.pos_of_ne_zero fun h => ?_
      rw [h] at h1; simp at h1
    obtain ⟨c, hc⟩ := hd
    have : a ^ (N - 1) = r * c + 1 := by omega
    rw [this, Nat.mul_add_mod]
    exact Nat.mod_eq_of_lt hr2
  have ha : ¬ r ∣ a := by
    intro h
    have h3 : r ∣ a ^ (N - 1) := Nat.dvd_trans h (by have := Nat.pow_dvd_pow a (show 1 ≤ N - 1 by omega); rwa [Nat.pow_one] at this)
    rw [Nat.mod_eq_zero_of_dvd h3] at h1r
    omega
  have hmr : a ^ m % r ≠ 1 := by
    intro h
    have hd : r ∣ a ^ m % N + N - 1 := by
      have e : a ^ m = N * (a ^ m / N) + a ^ m % N := by rw [Nat.div_add_mod]
      have h4 : r ∣ a ^ m - 1 := mod_one_dvd h
      obtain ⟨c, hc⟩ := h4
      obtain ⟨k, hk⟩ := hrN
      have hpos : 1 ≤ a ^ m := by
        refine Nat.pos_of_ne_zero fun h0 => ?_
        rw [h0] at h; simp at h
      have h5 : (a ^ m % N + N - 1) % r = 0 := by
        have h6 : (a ^ m % N) % r = 1 := by
          rw [Nat.mod_mod_of_dvd _ ⟨k, hk⟩]; exact h
        have h7 : N % r = 0 := Nat.mod_eq_zero_of_dvd ⟨k, hk⟩
        have h8 : 1 ≤ a ^ m % N := by
          refine Nat.pos_of_ne_zero fun h0 => ?_
          rw [h0] at h6; simp at h6
        have e2 : a ^ m % N + N - 1 = (a ^ m % N - 1) + N := by omega
        rw [e2, Nat.add_mod, h7, Nat.add_zero, Nat.mod_mod]
        exact Nat.mod_eq_zero_of_dvd (mod_one_dvd h6)
      exact Nat.dvd_of_mod_eq_zero h5
    have hg := Nat.dvd_gcd hd hrN
    rw [h2] at hg
    have := Nat.le_of_dvd (by decide) hg
    omega
  refine Classical.byContradiction fun hnd => ?_
  have hco : Nat.Coprime q (r - 1) := hq.coprime hnd
  have hg := pow_gcd hr (N - 1) (r - 1) h1r (fermat hr ha)
  have hgm : Nat.gcd (N - 1) (r - 1) ∣ m := by
    rw [hm]
    refine Nat.Coprime.dvd_of_dvd_mul_left (k := Nat.gcd (q * m) (r - 1)) (m := q) ?_ (Nat.gcd_dvd_left _ _)
    exact Nat.Coprime.coprime_dvd_left (Nat.gcd_dvd_right _ _) hco.symm
  obtain ⟨c, hc⟩ := hgm
  apply hmr
  rw [hc, Nat.pow_mul, Nat.pow_mod, hg, Nat.one_pow]
  exact Nat.mod_eq_of_lt hr2
/-- The test. -/
theorem pock {N F : Nat} (hN : 2 ≤ N) (hF : N < (F + 1) * (F + 1)) (h : ∀ r, Pr r → r ∣ N → F ∣ r - 1) : Pr N := by
  refine Classical.byContradiction fun hn => ?_
  obtain ⟨r, hr, hd, hs⟩ := prime_divisor N hN
  have h1 := hs hn
  have h2 := Nat.le_of_dvd (by have := hr.1; omega) (h r hr hd)
  have h3 : F + 1 ≤ r := by have := hr.1; omega
  have := Nat.mul_le_mul h3 h3
  omega
/-- A small prime, by division. -/
def noDiv (n : Nat) : Nat → Bool
  | 0 => true
  | k + 1 => (k + 2 == n || n % (k + 2) != 0) && noDiv n k
theorem noDiv_spec (n : Nat) : ∀ k, noDiv n k = true → ∀ d, 2 ≤ d → d ≤ k + 1 → d ∣ n → d = n := by
  intro k
  induction k with
  | zero => intro _ d h1 h2; omega
  | succ k ih =>
    intro h d h1 h2 hd
    simp [noDiv] at h
    by_cases e : d = k + 2
    · subst e
      rcases h.1 with h | h
      · exact h
      · exact absurd (Nat.mod_eq_zero_of_dvd hd) h
    · exact ih h.2 d h1 (by omega) hd
theorem small_prime {n k : Nat} (hn : 2 ≤ n) (hk : n < (k + 2) * (k + 2)) (h : noDiv n k = true) : Pr n := by
  refine Classical.byContradiction fun hp => ?_
  obtain ⟨r, hr, hd, hs⟩ := prime_divisor n hn
  have h1 := hs hp
  have h2 : r ≤ k + 1 := by
    refine Classical.byContradiction fun hc => ?_
    have : k + 2 ≤ r := by omega
    have := Nat.mul_le_mul this this
    omega
  have := noDiv_spec n k h r hr.1 h2 hd
  rw [this] at hr
  exact hp hr
end Go.Proofs.YtdjdociecokilaaDoor

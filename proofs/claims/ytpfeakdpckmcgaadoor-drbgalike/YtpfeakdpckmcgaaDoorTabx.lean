/-
  SHA-256 over natural numbers, by its definition; no Go in this text.
  The first primes, as sandglassref07.primes finds them; no Go in this text.
  Products of numbers of some words of 32 bits, as sandglassref07.mul makes them; no Go in this text.
  When a number of some words is above another, as sandglassref07.above finds it; roots by halves. No Go in this text.
  n cells of one kind of number in a block, which may be written; and slices over them. No function of the program is named here.
  The round numbers are those that roots of the first primes begin with; no Go in this text.
  A whole block of n numbers of one kind: known by the heap; loaded, stored, written. No function of the program is named here.
-/
import Derived.WalkKit
import Derived.Test.YtpfeakdpckmcgaaDoorEx
import Derived.Laws.BitsAllLaws
namespace Go.Proofs.YtpfeakdpckmcgaaDoor
/-- Turned right, 32 bits. -/
def rotr (x n : Nat) : Nat := x / 2 ^ n ||| (x * 2 ^ (32 - n)) % 4294967296
def bs0 (x : Nat) : Nat := rotr x 2 ^^^ rotr x 13 ^^^ rotr x 22
def bs1 (x : Nat) : Nat := rotr x 6 ^^^ rotr x 11 ^^^ rotr x 25
def ss0 (x : Nat) : Nat := rotr x 7 ^^^ rotr x 18 ^^^ x / 8
def ss1 (x : Nat) : Nat := rotr x 17 ^^^ rotr x 19 ^^^ x / 1024
def chf (e f g : Nat) : Nat := (e &&& f) ^^^ ((e ^^^ 4294967295) &&& g)
def majf (a b c : Nat) : Nat := (a &&& b) ^^^ (a &&& c) ^^^ (b &&& c)
/-- The next word of a block. -/
def wnext (l : List Nat) (t : Nat) : Nat := (ss1 (l.getD (t - 2) 0) + l.getD (t - 7) 0 + ss0 (l.getD (t - 15) 0) + l.getD (t - 16) 0) % 4294967296
/-- The first t words of a block whose first sixteen are B. -/
def wl (B : Nat → Nat) : Nat → List Nat
  | 0 => []
  | t + 1 => wl B t ++ [if t < 16 then B t else wnext (wl B t) t]
/-- One round on eight words. -/
def rstep (v : List Nat) (k w : Nat) : List Nat :=
  match v with
  | [a, b, c, d, e, f, g, h] => [(h + bs1 e + chf e f g + k + w + (bs0 a + majf a b c)) % 4294967296, a, b, c, (d + (h + bs1 e + chf e f g + k + w)) % 4294967296, e, f, g]
  | _ => []
/-- Eight words behind t rounds. -/
def rd (K W : List Nat) (v : List Nat) : Nat → List Nat
  | 0 => v
  | t + 1 => rstep (rd K W v t) (K.getD t 0) (W.getD t 0)
/-- What a block makes of eight words. -/
def blockF (K : List Nat) (B : Nat → Nat) (h : List Nat) : List Nat := List.zipWith (fun x y => (x + y) % 4294967296) h (rd K (wl B 64) h 64)
/-- The round numbers. -/
def KK : List Nat := [1116352408, 1899447441, 3049323471, 3921009573, 961987163, 1508970993, 2453635748, 2870763221, 3624381080, 310598401, 607225278, 1426881987, 1925078388, 2162078206, 2614888103, 3248222580, 3835390401, 4022224774, 264347078, 604807628, 770255983, 1249150122, 1555081692, 1996064986, 2554220882, 2821834349, 2952996808, 3210313671, 3336571891, 3584528711, 113926993, 338241895, 666307205, 773529912, 1294757372, 1396182291, 1695183700, 1986661051, 2177026350, 2456956037, 2730485921, 2820302411, 3259730800, 3345764771, 3516065817, 3600352804, 4094571909, 275423344, 430227734, 506948616, 659060556, 883997877, 958139571, 1322822218, 1537002063, 1747873779, 1955562222, 2024104815, 2227730452, 2361852424, 2428436474, 2756734187, 3204031479, 3329325298]
/-- What a text begins with. -/
def HH : List Nat := [1779033703, 3144134277, 1013904242, 2773480762, 1359893119, 2600822924, 528734635, 1541459225]
/-- A word of four bytes, the highest first. -/
def word4 (b : Nat → Nat) (o : Nat) : Nat := b o * 16777216 + b (o + 1) * 65536 + b (o + 2) * 256 + b (o + 3)
/-- How many bytes of 0 stand behind the bit 1. -/
def padN (n : Nat) : Nat := (119 - n % 64) % 64
/-- How many blocks. -/
def nblk (n : Nat) : Nat := (n + 8) / 64 + 1
/-- Byte i of the padded text of n bytes s. -/
def padB (s : Nat → Nat) (n : Nat) (i : Nat) : Nat := if i < n then s i else if i = n then 128 else if i < 64 * nblk n - 8 then 0 else n * 8 / 256 ^ (64 * nblk n - 1 - i) % 256
/-- Eight words behind k blocks. -/
def hashF (s : Nat → Nat) (n : Nat) : Nat → List Nat
  | 0 => HH
  | k + 1 => blockF KK (fun t => word4 (padB s n) (64 * k + 4 * t)) (hashF s n k)
/-- Byte i of the sum. -/
def shaB (s : Nat → Nat) (n : Nat) (i : Nat) : Nat := (hashF s n (nblk n)).getD (i / 4) 0 / 256 ^ (3 - i % 4) % 256
def tb (l : List Nat) (i : Nat) : Nat := l.getD i 0
set_option maxRecDepth 100000 in
theorem abc_ok : hashF (tb [97, 98, 99]) 3 1 = [0xba7816bf, 0x8f01cfea, 0x414140de, 0x5dae2223, 0xb00361a3, 0x96177a9c, 0xb410ff61, 0xf20015ad] := by decide +kernel
set_option maxRecDepth 100000 in
theorem nil_ok : (hashF (tb []) 0 1).getD 0 0 = 0xe3b0c442 := by decide +kernel
end Go.Proofs.YtpfeakdpckmcgaaDoor
namespace Go.Proofs.YtpfeakdpckmcgaaDoor
/-- The primes among 2 .. k + 1. -/
def sieve : Nat → List Nat
  | 0 => []
  | k + 1 => if (sieve k).any (fun p => (k + 2) % p == 0) then sieve k else sieve k ++ [k + 2]
theorem sieve_step (k : Nat) : sieve (k + 1) = if (sieve k).any (fun p => (k + 2) % p == 0) then sieve k else sieve k ++ [k + 2] := rfl
theorem sieve_pre (k j : Nat) : ∃ t, sieve (k + j) = sieve k ++ t := by
  induction j with
  | zero => exact ⟨[], by simp⟩
  | succ j ih =>
    obtain ⟨t, ht⟩ := ih
    rw [← Nat.add_assoc, sieve_step]
    split
    · exact ⟨t, ht⟩
    · exact ⟨t ++ [k + j + 2], by rw [ht, List.append_assoc]⟩
theorem sieve_one {k j : Nat} (h : (sieve k).length = (sieve j).length) : sieve k = sieve j := by
  have key : ∀ a b : Nat, a ≤ b → (sieve a).length = (sieve b).length → sieve a = sieve b := fun a b hab hl => by
    obtain ⟨t, ht⟩ := sieve_pre a (b - a)
    rw [show a + (b - a) = b from by omega] at ht
    rw [ht] at hl ⊢
    have : t = [] := by simpa using hl
    rw [this, List.append_nil]
  rcases Nat.le_total k j with h1 | h1
  · exact key k j h1 h
  · exact (key j k h1 h.symm).symm
theorem sieve_mono {k j : Nat} (h : k ≤ j) : (sieve k).length ≤ (sieve j).length := by
  obtain ⟨t, ht⟩ := sieve_pre k (j - k)
  rw [show k + (j - k) = j from by omega] at ht
  rw [ht]; simp
theorem sieve_bd (k : Nat) : ∀ p ∈ sieve k, 2 ≤ p ∧ p ≤ k + 1 := by
  induction k with
  | zero => intro p hp; simp [sieve] at hp
  | succ k ih =>
    intro p hp
    rw [sieve_step] at hp
    split at hp
    · have := ih p hp; omega
    · rcases List.mem_append.1 hp with h | h
      · have := ih p h; omega
      · simp at h; omega
set_option maxRecDepth 100000 in
theorem sieve_64 : (sieve 310).length = 64 := by decide +kernel
theorem sieve_end {k : Nat} (h : (sieve k).length < 64) : k < 310 := by
  rcases Nat.lt_or_ge k 310 with h1 | h1
  · exact h1
  · have := sieve_mono h1
    rw [sieve_64] at this
    omega
/-- Whether one of the first i divides x. -/
def hit (l : List Nat) (x i : Nat) : Bool := (l.take i).any (fun p => x % p == 0)
theorem hit_step {l : List Nat} {x i : Nat} (h : i < l.length) : hit l x (i + 1) = (hit l x i || x % l[i] == 0) := by
  unfold hit
  rw [List.take_succ_eq_append_getElem h, List.any_append]
  simp
theorem hit_all (l : List Nat) (x : Nat) : hit l x l.length = l.any (fun p => x % p == 0) := by unfold hit; rw [List.take_length]
end Go.Proofs.YtpfeakdpckmcgaaDoor
namespace Go.Proofs.YtpfeakdpckmcgaaDoor
/-- 2^32. -/
def BW : Nat := 4294967296
/-- The number of n words, the lowest first. -/
def nvf (P : Nat → Nat) : Nat → Nat
  | 0 => 0
  | n + 1 => nvf P n + P n * BW ^ n
def put (P : Nat → Nat) (i v : Nat) : Nat → Nat := fun k => if k = i then v else P k
theorem put_same (P : Nat → Nat) (i v : Nat) : put P i v i = v := if_pos rfl
theorem put_other (P : Nat → Nat) {i k : Nat} (v : Nat) (h : k ≠ i) : put P i v k = P k := if_neg h
theorem nvf_congr {P Q : Nat → Nat} {n : Nat} (h : ∀ k, k < n → P k = Q k) : nvf P n = nvf Q n := by
  induction n with
  | zero => rfl
  | succ n ih => unfold nvf; rw [ih (fun k hk => h k (by omega)), h n (by omega)]
theorem nvf_put (P : Nat → Nat) (i v n : Nat) (h : i < n) : nvf (put P i v) n + P i * BW ^ i = nvf P n + v * BW ^ i := by
  induction n with
  | zero => omega
  | succ n ih =>
    unfold nvf
    by_cases e : i = n
    · subst e
      rw [put_same, nvf_congr (P := put P i v) (Q := P) (fun k hk => put_other P v (by omega))]
      omega
    · have := ih (by omega)
      rw [put_other P v (show n ≠ i by omega)]
      omega
/-- What the inner loop keeps. -/
def MIn (A B P0 P : Nat → Nat) (n i j c : Nat) : Prop := nvf P n + c * BW ^ (i + j) = nvf P0 n + A i * nvf B j * BW ^ i ∧ (∀ k, P k < BW) ∧ c < BW ∧ ∀ k, i + j ≤ k → P k = P0 k
theorem MIn.start {A B P0 : Nat → Nat} {n i : Nat} (h : ∀ k, P0 k < BW) : MIn A B P0 P0 n i 0 0 := ⟨by simp [nvf], h, by decide, fun _ _ => rfl⟩
theorem prod_lt {x y p c : Nat} (hx : x < BW) (hy : y < BW) (hp : p < BW) (hc : c < BW) : p + x * y + c < 18446744073709551616 ∧ (p + x * y + c) / BW < BW := by
  have h1 : x * y ≤ 4294967295 * 4294967295 := Nat.mul_le_mul (by unfold BW at hx; omega) (by unfold BW at hy; omega)
  unfold BW at *
  omega
theorem MIn.step {A B P0 P : Nat → Nat} {n i j c : Nat} (h : MIn A B P0 P n i j c) (hij : i + j < n) (hA : A i < BW) (hB : B j < BW) :
    MIn A B P0 (put P (i + j) ((P (i + j) + A i * B j + c) % BW)) n i (j + 1) ((P (i + j) + A i * B j + c) / BW) := by
  obtain ⟨h1, h2, h3, h4⟩ := h
  have hb := prod_lt hA hB (h2 (i + j)) h3
  refine ⟨?_, fun k => ?_, hb.2, fun k hk => ?_⟩
  · have e1 := nvf_put P (i + j) ((P (i + j) + A i * B j + c) % BW) n hij
    have e2 := Nat.div_add_mod (P (i + j) + A i * B j + c) BW
    generalize (P (i + j) + A i * B j + c) / BW = q at *
    generalize (P (i + j) + A i * B j + c) % BW = r at *
    rw [show i + (j + 1) = (i + j) + 1 from by omega, Nat.pow_succ, show nvf B (j + 1) = nvf B j + B j * BW ^ j from rfl]
    have e3 : (BW * q + r) * BW ^ (i + j) = (P (i + j) + A i * B j + c) * BW ^ (i + j) := by rw [e2]
    have e4 : A i * (nvf B j + B j * BW ^ j) * BW ^ i = A i * nvf B j * BW ^ i + A i * B j * BW ^ (i + j) := by
      rw [Nat.mul_add, Nat.add_mul, Nat.pow_add]
      congr 1
      rw [← Nat.mul_assoc, Nat.mul_assoc (A i * B j), Nat.mul_comm (BW ^ j)]
    rw [e4]
    rw [Nat.add_mul, Nat.add_mul, Nat.add_mul] at e3
    have e5 : q * (BW ^ (i + j) * BW) = BW * q * BW ^ (i + j) := by
      rw [Nat.mul_comm (BW ^ (i + j)) BW, ← Nat.mul_assoc, Nat.mul_comm q BW]
    rw [e5]
    omega
  · by_cases e : k = i + j
    · subst e; rw [put_same]; exact Nat.mod_lt _ (by decide)
    · rw [put_other _ _ e]; exact h2 k
  · rw [put_other _ _ (by omega)]
    exact h4 k (by omega)
/-- What the outer loop keeps. -/
def MOut (A B P : Nat → Nat) (n lb i : Nat) : Prop := nvf P n = nvf A i * nvf B lb ∧ (∀ k, P k < BW) ∧ ∀ k, i + lb ≤ k → P k = 0
theorem MOut.start {A B : Nat → Nat} {n lb : Nat} : MOut A B (fun _ => 0) n lb 0 := by
  refine ⟨?_, fun _ => (by decide : 0 < BW), fun _ _ => rfl⟩
  have : ∀ n, nvf (fun _ => 0) n = 0 := fun n => by induction n with
    | zero => rfl
    | succ n ih => unfold nvf; rw [ih]; omega
  rw [this]; simp [nvf]
theorem MOut.step {A B P0 P : Nat → Nat} {n lb i c : Nat} (h : MOut A B P0 n lb i) (k : MIn A B P0 P n i lb c) (hi : i + lb < n) : MOut A B (put P (i + lb) c) n lb (i + 1) := by
  obtain ⟨h1, h2, h3⟩ := h
  obtain ⟨k1, k2, k3, k4⟩ := k
  have hz : P (i + lb) = 0 := by rw [k4 _ (by omega), h3 _ (by omega)]
  refine ⟨?_, fun t => ?_, fun t ht => ?_⟩
  · have e1 := nvf_put P (i + lb) c n hi
    rw [hz] at e1
    rw [show nvf A (i + 1) = nvf A i + A i * BW ^ i from rfl, Nat.add_mul, ← h1]
    have : A i * BW ^ i * nvf B lb = A i * nvf B lb * BW ^ i := by rw [Nat.mul_assoc, Nat.mul_comm (BW ^ i), ← Nat.mul_assoc]
    omega
  · by_cases e : t = i + lb
    · subst e; rw [put_same]; exact k3
    · rw [put_other _ _ e]; exact k2 t
  · rw [put_other _ _ (by omega), k4 _ (by omega), h3 _ (by omega)]
end Go.Proofs.YtpfeakdpckmcgaaDoor
namespace Go.Proofs.YtpfeakdpckmcgaaDoor
theorem BW_pos (n : Nat) : 0 < BW ^ n := Nat.pow_pos (by decide)
theorem nvf_lt {P : Nat → Nat} (h : ∀ k, P k < BW) (n : Nat) : nvf P n < BW ^ n := by
  induction n with
  | zero => simp [nvf]
  | succ n ih =>
    unfold nvf
    rw [Nat.pow_succ]
    have h1 := h n
    have h2 : P n * BW ^ n ≤ (BW - 1) * BW ^ n := Nat.mul_le_mul_right _ (by omega)
    have h3 : (BW - 1) * BW ^ n + BW ^ n = BW ^ n * BW := by
      rw [Nat.mul_comm (BW ^ n) BW, ← Nat.succ_mul]
      rfl
    omega
theorem nvf_mono {P : Nat → Nat} {n m : Nat} (h : n ≤ m) : nvf P n ≤ nvf P m := by
  induction m with
  | zero => have : n = 0 := by omega
            subst this; exact Nat.le_refl _
  | succ m ih =>
    by_cases e : n = m + 1
    · subst e; exact Nat.le_refl _
    · exact Nat.le_trans (ih (by omega)) (by show nvf P m ≤ nvf P m + P m * BW ^ m; omega)
theorem nvf_ge {P : Nat → Nat} {k m : Nat} (hk : k < m) : P k * BW ^ k ≤ nvf P m :=
  Nat.le_trans (by show P k * BW ^ k ≤ nvf P (k + 1); unfold nvf; omega) (nvf_mono (n := k + 1) hk)
theorem above_high {P : Nat → Nat} {x n k m : Nat} (hx : x < BW) (hn : n < k) (hk : k < m) (h : 0 < P k) : x * BW ^ n < nvf P m := by
  have h1 := nvf_ge (P := P) hk
  have h2 : BW ^ k ≤ P k * BW ^ k := Nat.le_mul_of_pos_left _ h
  have h3 : BW ^ (n + 1) ≤ BW ^ k := Nat.pow_le_pow_right (by decide) hn
  have h4 : x * BW ^ n < BW ^ (n + 1) := by
    rw [Nat.pow_succ, Nat.mul_comm (BW ^ n)]
    exact Nat.mul_lt_mul_of_pos_right hx (BW_pos n)
  omega
theorem nvf_zero {P : Nat → Nat} {n m : Nat} (hn : n ≤ m) (h : ∀ k, n ≤ k → k < m → P k = 0) : nvf P m = nvf P n := by
  induction m with
  | zero => have : n = 0 := by omega
            subst this; rfl
  | succ m ih =>
    by_cases e : n = m + 1
    · subst e; rfl
    · show nvf P m + P m * BW ^ m = nvf P n
      rw [h m (by omega) (by omega), ih (by omega) (fun k h1 h2 => h k h1 (by omega))]
      omega
theorem above_mid {P : Nat → Nat} {x n m : Nat} (hP : ∀ k, P k < BW) (hn : n < m) (h : ∀ k, n + 1 ≤ k → k < m → P k = 0) (hne : P n ≠ x) : (x < P n) ↔ x * BW ^ n < nvf P m := by
  rw [nvf_zero hn h]
  have h1 := nvf_lt hP n
  show x < P n ↔ x * BW ^ n < nvf P n + P n * BW ^ n
  constructor
  · intro h2
    have h3 : (x + 1) * BW ^ n ≤ P n * BW ^ n := Nat.mul_le_mul_right _ h2
    rw [Nat.succ_mul] at h3
    have := BW_pos n
    omega
  · intro h2
    rcases Nat.lt_or_ge x (P n) with h3 | h3
    · exact h3
    · have h4 : (P n + 1) * BW ^ n ≤ x * BW ^ n := Nat.mul_le_mul_right _ (by omega)
      rw [Nat.succ_mul] at h4
      omega
theorem above_low {P : Nat → Nat} {x n k m : Nat} (hn : n < m) (he : P n = x) (hk : k < n) (h : 0 < P k) : x * BW ^ n < nvf P m := by
  have h1 := nvf_ge (P := P) hk
  have h2 : 0 < P k * BW ^ k := Nat.mul_pos h (BW_pos k)
  have h3 := nvf_mono (P := P) (n := n + 1) (m := m) hn
  have h4 : nvf P (n + 1) = nvf P n + P n * BW ^ n := rfl
  rw [he] at h4
  omega
theorem above_not {P : Nat → Nat} {x n m : Nat} (hn : n < m) (h : ∀ k, n + 1 ≤ k → k < m → P k = 0) (he : P n = x) (hl : ∀ k, k < n → P k = 0) : ¬ x * BW ^ n < nvf P m := by
  rw [nvf_zero hn h]
  show ¬ x * BW ^ n < nvf P n + P n * BW ^ n
  rw [he, nvf_zero (P := P) (Nat.zero_le n) (fun k _ hk => hl k hk)]
  simp [nvf]
/-- A root by halves: r is the greatest of 2^k .. whose power is not above. -/
def rootN (x p : Nat) : Nat → Nat
  | 0 => 0
  | s + 1 => if x * BW ^ p < (rootN x p s + 2 ^ (39 - s)) ^ p then rootN x p s else rootN x p s + 2 ^ (39 - s)
theorem rootN_mod (x p s : Nat) (hs : s ≤ 40) : rootN x p s % 2 ^ (40 - s) = 0 ∧ rootN x p s < 2 ^ 40 := by
  induction s with
  | zero => simp [rootN]
  | succ s ih =>
    obtain ⟨h1, h2⟩ := ih (by omega)
    have e : 2 ^ (40 - s) = 2 * 2 ^ (39 - s) := by rw [show 40 - s = (39 - s) + 1 from by omega, Nat.pow_succ, Nat.mul_comm]
    rw [show 40 - (s + 1) = 39 - s from by omega]
    have h3 : rootN x p s % 2 ^ (39 - s) = 0 := by
      have hd := Nat.dvd_of_mod_eq_zero h1
      rw [e] at hd
      exact Nat.mod_eq_zero_of_dvd (Nat.dvd_trans (Nat.dvd_mul_left _ _) hd)
    unfold rootN
    split
    · exact ⟨h3, h2⟩
    · refine ⟨by rw [Nat.add_mod_right]; exact h3, ?_⟩
      obtain ⟨q, hq⟩ := Nat.dvd_of_mod_eq_zero h1
      have hb : (2 : Nat) ^ 40 = 2 ^ (40 - s) * 2 ^ s := by rw [← Nat.pow_add]; congr 1; omega
      rw [hb] at h2 ⊢
      rw [hq] at h2 ⊢
      have hp : 0 < 2 ^ (40 - s) := Nat.pow_pos (by decide)
      have h4 : q < 2 ^ s := Nat.lt_of_mul_lt_mul_left h2
      have h5 : 2 ^ (40 - s) * (q + 1) ≤ 2 ^ (40 - s) * 2 ^ s := Nat.mul_le_mul_left _ h4
      rw [Nat.mul_add, Nat.mul_one] at h5
      have h6 : 2 ^ (39 - s) < 2 ^ (40 - s) := Nat.pow_lt_pow_right (by decide) (by omega)
      omega
end Go.Proofs.YtpfeakdpckmcgaaDoor
namespace Go.Proofs.YtpfeakdpckmcgaaDoor
open Go.RowKit
/-- n numbers in block b, which may be written. -/
def TabN (w : World) (b : Nat) (kd : IntKind) (n : Nat) (T : Nat → Nat) : Prop := b < w.heap.size ∧ ∀ k, k < n → w.cell? ⟨b, k, none⟩ = some (.int kd (T k : Int)) ∧ w.frozen? ⟨b, k, none⟩ = false
theorem TabN.ext {w w' : World} {b n : Nat} {kd : IntKind} {T : Nat → Nat} (h : TabN w b kd n T) (hx : Ext w w') : TabN w' b kd n T :=
  ⟨Nat.lt_of_lt_of_le h.1 hx.size, fun k hk => ⟨later hx (h.2 k hk).1, (hx.cells.2 b k h.1).trans (h.2 k hk).2⟩⟩
theorem TabN.set {w : World} {b n : Nat} {kd : IntKind} {T : Nat → Nat} (h : TabN w b kd n T) (o v : Nat) : TabN (w.setCell ⟨b, o, none⟩ (.int kd (v : Int))) b kd n (put T o v) := by
  refine ⟨by simpa using h.1, fun k hk => ⟨?_, by simpa using (h.2 k hk).2⟩⟩
  by_cases e : k = o
  · subst e
    rw [put_same]
    exact World.cell?_setCell_same' _ _ _ (by rw [(h.2 k hk).1]; rfl)
  · rw [put_other _ _ e, World.cell?_setCell_other _ _ _ _ (fun q => e (by injection q with _ q _; exact q.symm))]
    exact (h.2 k hk).1
theorem TabN.other {w : World} {b c i n : Nat} {kd : IntKind} {T : Nat → Nat} {v : Value} (hne : c ≠ b) (h : TabN w c kd n T) : TabN (w.setCell ⟨b, i, none⟩ v) c kd n T :=
  ⟨by simpa using h.1, fun k hk => ⟨by rw [World.cell?_setCell_far _ _ _ _ (fun q => hne q.symm)]; exact (h.2 k hk).1, by simpa using (h.2 k hk).2⟩⟩
theorem TabN.new (w : World) (kd : IntKind) (n : Nat) (t : TypeId) : TabN (w.alloc (.cells (Array.replicate n (.int kd 0)) t)) w.heap.size kd n (fun _ => 0) :=
  ⟨by simp, fun k hk => ⟨by rw [World.cell?_alloc_at _ _ _ _ rfl]; simp [hk], World.frozen?_alloc_at _ _ _ _ rfl⟩⟩
/-- The first n numbers, as a list of cells. -/
def lst (kd : IntKind) (T : Nat → Nat) (n : Nat) : List Value := (List.range n).map fun (i : Nat) => Value.int kd (T i : Int)
theorem lst_len (kd : IntKind) (T : Nat → Nat) (n : Nat) : (lst kd T n).length = n := by simp [lst]
theorem lst_get {kd : IntKind} {T : Nat → Nat} {n i : Nat} (h : i < n) : (lst kd T n)[i]? = some (.int kd (T i : Int)) := by
  unfold lst
  rw [List.getElem?_map, List.getElem?_range h]
  rfl
theorem lst_of {kd : IntKind} {T : Nat → Nat} {n i : Nat} {x : Value} (h : (lst kd T n)[i]? = some x) : i < n ∧ x = .int kd (T i : Int) := by
  have hi : i < n := by
    have := (List.getElem?_eq_some_iff.1 h).1
    rwa [lst_len] at this
  rw [lst_get hi] at h
  exact ⟨hi, (Option.some.inj h).symm⟩
theorem lst_succ (kd : IntKind) (T : Nat → Nat) (n : Nat) : lst kd T (n + 1) = lst kd T n ++ [.int kd (T n : Int)] := by simp [lst, List.range_succ]
theorem lst_congr {kd : IntKind} {T S : Nat → Nat} {n : Nat} (h : ∀ k, k < n → T k = S k) : lst kd T n = lst kd S n := by
  unfold lst
  refine List.map_congr_left fun i hi => ?_
  rw [h i (List.mem_range.1 hi)]
theorem TabN.slice {w : World} {b n c : Nat} {kd : IntKind} {T : Nat → Nat} (h : TabN w b kd n T) (hn : n ≤ maxLen) : SlIs w (.slice (some ⟨b, 0, none⟩) n c) (lst kd T n) :=
  .inr ⟨b, 0, c, by rw [lst_len], h.1, by rw [lst_len]; exact hn, fun j x hj => by obtain ⟨hk, rfl⟩ := lst_of hj; rw [Nat.zero_add]; exact (h.2 j hk).1⟩
/-- A slice that is read, its first cell's place given. -/
theorem SlIs.form {w : World} {v : Value} {kd : IntKind} {T : Nat → Nat} {n : Nat} (h : SlIs w v (lst kd T n)) (hn : 0 < n) : ∃ b o c, v = .slice (some ⟨b, o, none⟩) n c ∧ b < w.heap.size ∧ ∀ j, j < n → w.cell? ⟨b, o + j, none⟩ = some (.int kd (T j : Int)) := by
  rcases h with ⟨_, h⟩ | ⟨b, o, c, h1, h2, _, h4⟩
  · have := lst_len kd T n
    rw [h] at this
    simp at this
    omega
  · rw [lst_len] at h1
    exact ⟨b, o, c, h1, h2, fun j hj => h4 j _ (lst_get hj)⟩
theorem own_tab {w : World} {base g n c : Nat} {e : TypeId} {kd : IntKind} {T : Nat → Nat} (h : w.ownsRow base e 1 (.slice (some ⟨g, 0, none⟩) n c) n (lst kd T n)) : TabN w g kd n T := by
  have hc := h.cells (g := g) rfl
  rcases h.2 with ⟨h0, _⟩ | ⟨g', cap, cur, hv, hb, hgg, rest⟩
  · cases h0
  · injection hv with hv _ _
    injection hv with hv
    injection hv with hv _ _
    subst hv
    refine ⟨(Array.getElem?_eq_some_iff.1 hgg).1, fun k hk => ⟨?_, by simp [World.frozen?, hgg]⟩⟩
    have := hc k _ (lst_get hk)
    have hadd : (⟨g, 0, none⟩ : Addr).add k = ⟨g, k, none⟩ := by unfold Addr.add; split <;> simp_all
    rwa [hadd] at this
theorem made_lst (kd : IntKind) (n : Nat) : (madeCells (Value.int kd 0).cells (n * 1)).toList = lst kd (fun _ => 0) n := by
  unfold madeCells lst
  rw [Nat.mul_one]
  simp [Value.cells, Nat.mod_one]
theorem made_lst' (kd : IntKind) (n : Nat) : (madeCells #[Value.int kd 0] n).toList = lst kd (fun _ => 0) n := by
  have h := made_lst kd n
  rw [Nat.mul_one] at h
  exact h
theorem and32 (t : Nat) (h : t < 18446744073709551616) : bits BinOp.and IntKind.u64 (t : Int) 4294967295 = ((t % BW : Nat) : Int) := by
  have := u64_and_nat t 4294967295 h (by decide)
  rw [show ((4294967295 : Nat) : Int) = 4294967295 from rfl, show (4294967295 : Nat) = 2 ^ 32 - 1 from by decide, Nat.and_two_pow_sub_one_eq_mod] at this
  exact this
end Go.Proofs.YtpfeakdpckmcgaaDoor
namespace Go.Proofs.YtpfeakdpckmcgaaDoor
def checkK : Bool := (List.range 64).all fun i => rootN ((sieve 310).getD i 0) 3 40 % BW == KK.getD i 0
def checkH : Bool := (List.range 8).all fun i => rootN ((sieve 310).getD i 0) 2 40 % BW == HH.getD i 0
set_option maxRecDepth 100000 in
theorem checkK_ok : checkK = true := by decide +kernel
set_option maxRecDepth 100000 in
theorem checkH_ok : checkH = true := by decide +kernel
theorem KK_root {i : Nat} (h : i < 64) : rootN ((sieve 310).getD i 0) 3 40 % BW = KK.getD i 0 := by
  have := List.all_eq_true.1 checkK_ok i (List.mem_range.2 h)
  exact eq_of_beq this
theorem HH_root {i : Nat} (h : i < 8) : rootN ((sieve 310).getD i 0) 2 40 % BW = HH.getD i 0 := by
  have := List.all_eq_true.1 checkH_ok i (List.mem_range.2 h)
  exact eq_of_beq this
theorem sieve_pre_get {k n i : Nat} (hk : (sieve k).length = n) (hn : n ≤ 64) (h : i < n) : (sieve k).getD i 0 = (sieve 310).getD i 0 ∧ (sieve k).getD i 0 < 1000 := by
  have hk3 : k ≤ 310 ∨ (sieve k).length = 64 := by
    rcases Nat.lt_or_ge (sieve k).length 64 with h1 | h1
    · exact Or.inl (Nat.le_of_lt (sieve_end h1))
    · exact Or.inr (by omega)
  have e : ∃ t, sieve 310 = sieve k ++ t := by
    rcases hk3 with h1 | h1
    · obtain ⟨t, ht⟩ := sieve_pre k (310 - k)
      rw [show k + (310 - k) = 310 from by omega] at ht
      exact ⟨t, ht⟩
    · exact ⟨[], by rw [List.append_nil]; exact sieve_one (by rw [sieve_64, h1])⟩
  obtain ⟨t, ht⟩ := e
  have hlt : i < (sieve k).length := by omega
  have e2 : (sieve k).getD i 0 = (sieve 310).getD i 0 := by
    rw [ht, List.getD_eq_getElem?_getD, List.getD_eq_getElem?_getD, List.getElem?_append_left hlt]
  refine ⟨e2, ?_⟩
  rw [e2]
  have hl : i < (sieve 310).length := by rw [sieve_64]; omega
  rw [List.getD_eq_getElem?_getD, List.getElem?_eq_getElem hl]
  have := sieve_bd 310 _ (List.getElem_mem hl)
  simp only [Option.getD_some]
  omega
end Go.Proofs.YtpfeakdpckmcgaaDoor
namespace Go.Proofs.YtpfeakdpckmcgaaDoor
open Go.RowKit
/-- Block b is n numbers, and may be written. -/
def RowH (w : World) (b : Nat) (ty : TypeId) (kd : IntKind) (n : Nat) (T : Nat → Nat) : Prop := w.heap[b]? = some (.cells (lst kd T n).toArray ty (0, 0))
theorem RowH.lt {w : World} {b n : Nat} {ty : TypeId} {kd : IntKind} {T : Nat → Nat} (h : RowH w b ty kd n T) : b < w.heap.size := (Array.getElem?_eq_some_iff.1 h).1
theorem RowH.ext {w w' : World} {b n : Nat} {ty : TypeId} {kd : IntKind} {T : Nat → Nat} (h : RowH w b ty kd n T) (hx : Ext w w') : RowH w' b ty kd n T := (Below.block hx b h.lt).trans h
theorem RowH.tab {w : World} {b n : Nat} {ty : TypeId} {kd : IntKind} {T : Nat → Nat} (h : RowH w b ty kd n T) : TabN w b kd n T := by
  refine ⟨h.lt, fun k hk => ⟨?_, ?_⟩⟩
  · have h2 : w.heap[b]? = some (.cells (lst kd T n).toArray ty (0, 0)) := h
    rw [cell_of_row w b k _ _ _ h2]
    simpa using lst_get hk
  · have h2 : w.heap[b]? = some (.cells (lst kd T n).toArray ty (0, 0)) := h
    simp [World.frozen?, h2]
theorem lst_put (kd : IntKind) (T : Nat → Nat) (n o v : Nat) : (lst kd T n).set o (.int kd (v : Int)) = lst kd (put T o v) n := by
  apply List.ext_getElem?
  intro k
  rw [List.getElem?_set]
  by_cases hk : k < n
  · rw [lst_get hk, lst_get hk]
    by_cases e : o = k
    · subst e
      rw [if_pos rfl, if_pos (by rw [lst_len]; exact hk), put_same]
    · rw [if_neg e, put_other _ _ (fun q => e q.symm)]
  · rw [List.getElem?_eq_none (by rw [lst_len]; omega), List.getElem?_eq_none (by rw [lst_len]; omega)]
    split
    · rw [if_neg (by rw [lst_len]; omega)]
    · rfl
theorem RowH.set {w : World} {b n : Nat} {ty : TypeId} {kd : IntKind} {T : Nat → Nat} (h : RowH w b ty kd n T) (o v : Nat) : RowH (w.setCell ⟨b, o, none⟩ (.int kd (v : Int))) b ty kd n (put T o v) := by
  have h2 : w.heap[b]? = some (.cells (lst kd T n).toArray ty (0, 0)) := h
  unfold RowH
  rw [setCell_eq_setRow w b o _ ty (0, 0) _ h2, setRow_heap w b _ _ ty _ h2]
  congr 2
  rw [← lst_put]
  simp
theorem RowH.other {w : World} {b c i n : Nat} {ty : TypeId} {kd : IntKind} {T : Nat → Nat} {v : Value} (hne : c ≠ b) (h : RowH w c ty kd n T) (hb : ∃ cs t fr, w.heap[b]? = some (.cells cs t fr)) : RowH (w.setCell ⟨b, i, none⟩ v) c ty kd n T := by
  obtain ⟨cs, t, fr, hb⟩ := hb
  unfold RowH
  rw [setCell_eq_setRow w b i cs t fr v hb, setRow_other w b c _ hne]
  exact h
theorem RowH.new (w : World) (kd : IntKind) (n : Nat) (t : TypeId) : RowH (w.alloc (.cells (Array.replicate n (.int kd 0)) t)) w.heap.size t kd n (fun _ => 0) := by
  unfold RowH
  rw [heap_alloc_new]
  congr 2
  apply Array.ext'
  apply List.ext_getElem?
  intro k
  by_cases hk : k < n
  · simp [lst_get hk, hk]
  · rw [List.getElem?_eq_none (by simp; omega), List.getElem?_eq_none (by simp [lst_len]; omega)]
theorem RowH.load {P : Program} {w : World} {b n : Nat} {ty : TypeId} {kd : IntKind} {T : Nat → Nat} {e : TypeId} {m : Nat} (h : RowH w b ty kd n T) (t : TypeId) (hu : P.underlying t = some (.array m e)) (hi : (P.info? t).map (·.size) = some n) :
    (loadVar t ⟨b, 0, none⟩).run P w = .ok (.agg (lst kd T n).toArray) w :=
  run_loadVar_row w b ty t _ _ _ h hu rfl (by rw [hi]; simp [lst_len])
theorem lst_one (kd : IntKind) (T : Nat → Nat) (n : Nat) : (lst kd T n).toArray.all (·.oneCell') = true := by
  rw [Array.all_eq_true_iff_forall_mem]
  intro v hv
  simp [lst] at hv
  obtain ⟨i, _, rfl⟩ := hv
  rfl
theorem RowH.store {P : Program} {w : World} {b n : Nat} {ty : TypeId} {kd : IntKind} {T : Nat → Nat} (h : RowH w b ty kd n T) (t : TypeId) (S : Nat → Nat) (hi : (P.info? t).map (·.size) = some n) :
    (storeVar t ⟨b, 0, none⟩ (.agg (lst kd S n).toArray)).run P w = .ok () (w.setRow b (lst kd S n).toArray) :=
  run_storeVar_row w b ty t _ _ h (by rw [hi]; simp [lst_len]) (by simp [lst_len]) (lst_one kd S n)
theorem RowH.row {w : World} {b n : Nat} {ty : TypeId} {kd : IntKind} {T : Nat → Nat} (h : RowH w b ty kd n T) (S : Nat → Nat) : RowH (w.setRow b (lst kd S n).toArray) b ty kd n S := setRow_heap w b _ _ ty _ h
theorem Ext.row {a w : World} (h : Ext a w) {b : Nat} (hb : a.heap.size ≤ b) (cs : Array Value) : Ext a (w.setRow b cs) :=
  Below.trans h ⟨rfl, rfl, rfl, by simp [World.setRow], fun k hk => setRow_other w b k cs (by omega)⟩
end Go.Proofs.YtpfeakdpckmcgaaDoor

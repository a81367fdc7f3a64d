/-
  The first primes, as sandglassref07.primes finds them; no Go in this text.
-/
namespace Go.Proofs.YtfhglfldmboanaaDoor
/-- The primes among 2 .. k + 1. -/
def sieve : Nat → List Nat
  | 0 => []
  | k + 1 => if (sieve k).any (fun p => (k + 2) % p == 0) then sieve k else sieve k ++ [k + 2]
theorem sieve_step (k : Nat) : sieve (k + 1) = if (sieve k).any (fun p => (k + 2) % p == 0) then sieve k else sieve k ++ [k + 2] := rfl
theorem sieve_pre (k j : Nat) : ∃ t, sieve (k + j) = sieve k ++ t := by
  induction j with
  | zero => exact ⟨[], by simp⟩
  | succ j ih =>
    obtain ⟨t, ht⟩ := ih
    rw [← Nat.add_assoc, sieve_step]
    split
    · exact ⟨t, ht⟩
    · exact ⟨t ++ [k + j + 2], by rw [ht, List.append_assoc]⟩
theorem sieve_one {k j : Nat} (h : (sieve k).length = (sieve j).length) : sieve k = sieve j := by
  have key : ∀ a b : Nat, a ≤ b → (sieve a).length = (sieve b).length → sieve a = sieve b := fun a b hab hl => by
    obtain ⟨t, ht⟩ := sieve_pre a (b - a)
    rw [show a + (b - a) = b from by omega] at ht
    rw [ht] at hl ⊢
    have : t = [] := by simpa using hl
    rw [this, List.append_nil]
  rcases Nat.le_total k j with h1 | h1
  · exact key k j h1 h
  · exact (key j k h1 h.symm).symm
theorem sieve_mono {k j : Nat} (h : k ≤ j) : (sieve k).length ≤ (sieve j).length := by
  obtain ⟨t, ht⟩ := sieve_pre k (j - k)
  rw [show k + (j - k) = j from by omega] at ht
  rw [ht]; simp
theorem sieve_bd (k : Nat) : ∀ p ∈ sieve k, 2 ≤ p ∧ p ≤ k + 1 := by
  induction k with
  | zero => intro p hp; simp [sieve] at hp
  | succ k ih =>
    intro p hp
    rw [sieve_step] at hp
    split at hp
    · have := ih p hp; omega
    · rcases List.mem_append.1 hp with h | h
      · have := ih p h; omega
      · simp at h; omega
set_option maxRecDepth 100000 in
theorem sieve_64 : (sieve 310).length = 64 := by decide +kernel
theorem sieve_end {k : Nat} (h : (sieve k).length < 64) : k < 310 := by
  rcases Nat.lt_or_ge k 310 with h1 | h1
  · exact h1
  · have := sieve_mono h1
    rw [sieve_64] at this
    omega
/-- Whether one of the first i divides x. -/
def hit (l : List Nat) (x i : Nat) : Bool := (l.take i).any (fun p => x % p == 0)
theorem hit_step {l : List Nat} {x i : Nat} (h : i < l.length) : hit l x (i + 1) = (hit l x i || x % l[i] == 0) := by
  unfold hit
  rw [List.take_succ_eq_append_getElem h, List.any_append]
  simp
theorem hit_all (l : List Nat) (x : Nat) : hit l x l.length = l.any (fun p => x % p == 0) := by unfold hit; rw [List.take_length]
end Go.Proofs.YtfhglfldmboanaaDoor

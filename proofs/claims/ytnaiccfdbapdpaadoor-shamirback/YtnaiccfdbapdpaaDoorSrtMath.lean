/-
  Places that are sorted: they rise from each to the next just if none is there twice. No function of the program is named here.
-/
import Derived.Test.YtnaiccfdbapdpaaDoorWtMath
namespace Go.Proofs.YtnaiccfdbapdpaaDoor
open Go.RowKit
/-- The first k of f, as a list. -/
def upto (f : Nat → Int) (k : Nat) : List Int := (List.range k).map f
theorem upto_succ (f : Nat → Int) (k : Nat) : upto f (k + 1) = upto f k ++ [f k] := by simp [upto, List.range_succ]
theorem upto_len (f : Nat → Int) (k : Nat) : (upto f k).length = k := by simp [upto]
theorem upto_at (f : Nat → Int) (n k : Nat) (h : k < n) : (upto f n)[k]? = some (f k) := by simp [upto, h]
theorem mem_upto {f : Nat → Int} {n : Nat} {x : Int} : x ∈ upto f n ↔ ∃ k, k < n ∧ f k = x := by simp [upto]
/-- Q is P, sorted. -/
def SortOf (P Q : Nat → Int) (n : Nat) : Prop := (upto Q n).Perm (upto P n) ∧ ∀ i j, i < j → j < n → Q i ≤ Q j
/-- What stands ahead of number k. -/
def ah (Q : Nat → Int) : Nat → Int
  | 0 => 0
  | k + 1 => Q k
theorem rise {Q : Nat → Int} {n : Nat} (h : ∀ k, k < n → ah Q k < Q k) : ∀ j i, i < j → j < n → Q i < Q j
  | 0, i, hi, _ => absurd hi (Nat.not_lt_zero i)
  | j + 1, i, hi, hj => by
    have h1 : Q j < Q (j + 1) := h (j + 1) hj
    by_cases e : i = j
    · subst e; exact h1
    · have := rise h j i (by omega) (by omega)
      omega
theorem above {Q : Nat → Int} {n : Nat} (h : ∀ k, k < n → ah Q k < Q k) : ∀ k, k < n → 1 ≤ Q k
  | 0, hk => by have h0 : (0 : Int) < Q 0 := h 0 hk; omega
  | k + 1, hk => by
    have h1 : Q k < Q (k + 1) := h (k + 1) hk
    have := above h k (by omega)
    omega
theorem nodup_of {f : Nat → Int} : ∀ n, (∀ i, i < n → ∀ k, k < i → f k ≠ f i) → (upto f n).Nodup
  | 0, _ => by simp [upto]
  | n + 1, h => by
    rw [upto_succ, List.nodup_append]
    refine ⟨nodup_of n (fun i hi => h i (by omega)), by simp, ?_⟩
    intro a ha b hb
    obtain ⟨k, hk, rfl⟩ := mem_upto.1 ha
    simp at hb
    subst hb
    exact h n (by omega) k hk
theorem of_nodup {f : Nat → Int} : ∀ n, (upto f n).Nodup → ∀ i, i < n → ∀ k, k < i → f k ≠ f i
  | 0, _, i, hi, _, _ => absurd hi (Nat.not_lt_zero i)
  | n + 1, h, i, hi, k, hk => by
    rw [upto_succ, List.nodup_append] at h
    by_cases e : i = n
    · subst e
      exact h.2.2 _ (mem_upto.2 ⟨k, hk, rfl⟩) _ (by simp)
    · exact of_nodup n h.1 i (by omega) k hk
theorem ok_sorted {P Q : Nat → Int} {n : Nat} (hs : SortOf P Q n) (h : ∀ k, k < n → ah Q k < Q k ∧ Q k ≤ 2147483648) : OkT P n := by
  have hr := rise (fun k hk => (h k hk).1)
  have ha := above (fun k hk => (h k hk).1)
  have hnd : (upto P n).Nodup := hs.1.nodup_iff.1 (nodup_of n fun i hi k hk => by have := hr i k hk hi; omega)
  intro i hi
  refine ⟨?_, of_nodup n hnd i hi⟩
  obtain ⟨k, hk, e⟩ := mem_upto.1 (hs.1.mem_iff.2 (mem_upto.2 ⟨i, hi, rfl⟩))
  have h1 := ha k hk
  have h2 := (h k hk).2
  omega
theorem bad_sorted {P Q : Nat → Int} {n k : Nat} (hs : SortOf P Q n) (hk : k < n) (h : Q k ≤ ah Q k ∨ 2147483648 < Q k) : ¬ OkP P n := by
  intro hok
  obtain ⟨i, hi, e⟩ := mem_upto.1 (hs.1.mem_iff.1 (mem_upto.2 ⟨k, hk, rfl⟩))
  have hr := (hok.2 i hi).1
  rcases h with h | h
  · cases k with
    | zero => have h1 : Q 0 ≤ 0 := h; omega
    | succ k =>
      have h1 : Q (k + 1) ≤ Q k := h
      have h2 := hs.2 k (k + 1) (by omega) hk
      have hnd : (upto Q n).Nodup := hs.1.nodup_iff.2 (nodup_of n fun i hi => (hok.2 i hi).2)
      exact of_nodup n hnd (k + 1) hk k (by omega) (by omega)
  · omega
/-- The list, sorted, by its numbers. -/
def srt (P : Nat → Int) (n : Nat) : List Int := (upto P n).mergeSort fun x y => decide (x ≤ y)
theorem srt_len (P : Nat → Int) (n : Nat) : (srt P n).length = n := by unfold srt; rw [List.length_mergeSort, upto_len]
theorem upto_list (l : List Int) : upto (fun k => l[k]?.getD 0) l.length = l := by
  apply List.ext_getElem
  · simp [upto]
  · intro i h1 h2
    simp [upto, h2]
theorem srt_of (P : Nat → Int) (n : Nat) : SortOf P (fun k => (srt P n)[k]?.getD 0) n := by
  have hl := srt_len P n
  have hp : (srt P n).Perm (upto P n) := List.mergeSort_perm _ _
  have hs : (srt P n).Pairwise fun x y => decide (x ≤ y) = true := List.pairwise_mergeSort (le := fun x y : Int => decide (x ≤ y)) (fun a b c h1 h2 => by simp at *; omega) (fun a b => by simp; omega) (upto P n)
  generalize srt P n = l at *
  subst hl
  refine ⟨by rw [upto_list]; exact hp, ?_⟩
  intro i j hij hj
  have := (List.pairwise_iff_getElem.1 hs) i j (by omega) hj hij
  simpa [hj, Nat.lt_trans hij hj] using this
end Go.Proofs.YtnaiccfdbapdpaaDoor

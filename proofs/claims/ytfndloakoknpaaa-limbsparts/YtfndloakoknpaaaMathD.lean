/-
  The numbers of the statements' own examples: a product, a sum with a carry, a difference with a borrow. No Go in this text.
-/
import Derived.Test.YtfndloakoknpaaaMathC
namespace Go.Proofs.Ytfndloakoknpaaa
theorem mul_const {l0 l1 l2 l3 h0 h1 h2 h3 : Int} (h : Lim4 l0 l1 l2 l3 ∧ Lim4 h0 h1 h2 h3 ∧ MulP (val 0 0 0 9223372036854775808) (val 2 0 0 0) (val l0 l1 l2 l3) (val h0 h1 h2 h3)) :
    (l0 = 0 ∧ l1 = 0 ∧ l2 = 0 ∧ l3 = 0) ∧ (h0 = 1 ∧ h1 = 0 ∧ h2 = 0 ∧ h3 = 0) := by
  obtain ⟨hl, hh, hm⟩ := h
  have e : val 0 0 0 9223372036854775808 * val 2 0 0 0 = B256 := by decide
  unfold MulP at hm
  rw [e] at hm
  unfold Lim4 Lim at *
  unfold val B256 at hm
  omega
theorem add_const {s0 s1 s2 s3 : Int} {c : Bool} (h : AddP 18446744073709551615 18446744073709551615 18446744073709551615 18446744073709551615 1 0 0 0 s0 s1 s2 s3 c) :
    (s0 = 0 ∧ s1 = 0 ∧ s2 = 0 ∧ s3 = 0) ∧ c = true := by
  obtain ⟨hl, hm⟩ := h
  unfold Lim4 Lim at *
  unfold val B256 at hm
  cases c
  · simp at hm; omega
  · simp at hm; refine ⟨?_, rfl⟩; omega
theorem sub_const {s0 s1 s2 s3 : Int} {c : Bool} (h : SubP 0 0 0 0 1 0 0 0 s0 s1 s2 s3 c) :
    (s0 = 18446744073709551615 ∧ s1 = 18446744073709551615 ∧ s2 = 18446744073709551615 ∧ s3 = 18446744073709551615) ∧ c = true := by
  obtain ⟨hl, hm⟩ := h
  unfold Lim4 Lim at *
  unfold val B256 at hm
  cases c
  · simp at hm; omega
  · simp at hm; refine ⟨?_, rfl⟩; omega
end Go.Proofs.Ytfndloakoknpaaa

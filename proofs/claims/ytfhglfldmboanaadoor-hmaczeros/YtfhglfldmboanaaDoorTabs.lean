/-
  The round numbers are those that roots of the first primes begin with; no Go in this text.
-/
import Derived.Test.YtfhglfldmboanaaDoorShaMath
import Derived.Test.YtfhglfldmboanaaDoorTabMath
import Derived.Test.YtfhglfldmboanaaDoorAboveMath
namespace Go.Proofs.YtfhglfldmboanaaDoor
def checkK : Bool := (List.range 64).all fun i => rootN ((sieve 310).getD i 0) 3 40 % BW == KK.getD i 0
def checkH : Bool := (List.range 8).all fun i => rootN ((sieve 310).getD i 0) 2 40 % BW == HH.getD i 0
set_option maxRecDepth 100000 in
theorem checkK_ok : checkK = true := by decide +kernel
set_option maxRecDepth 100000 in
theorem checkH_ok : checkH = true := by decide +kernel
theorem KK_root {i : Nat} (h : i < 64) : rootN ((sieve 310).getD i 0) 3 40 % BW = KK.getD i 0 := by
  have := List.all_eq_true.1 checkK_ok i (List.mem_range.2 h)
  exact eq_of_beq this
theorem HH_root {i : Nat} (h : i < 8) : rootN ((sieve 310).getD i 0) 2 40 % BW = HH.getD i 0 := by
  have := List.all_eq_true.1 checkH_ok i (List.mem_range.2 h)
  exact eq_of_beq this
theorem sieve_pre_get {k n i : Nat} (hk : (sieve k).length = n) (hn : n ≤ 64) (h : i < n) : (sieve k).getD i 0 = (sieve 310).getD i 0 ∧ (sieve k).getD i 0 < 1000 := by
  have hk3 : k ≤ 310 ∨ (sieve k).length = 64 := by
    rcases Nat.lt_or_ge (sieve k).length 64 with h1 | h1
    · exact Or.inl (Nat.le_of_lt (sieve_end h1))
    · exact Or.inr (by omega)
  have e : ∃ t, sieve 310 = sieve k ++ t := by
    rcases hk3 with h1 | h1
    · obtain ⟨t, ht⟩ := sieve_pre k (310 - k)
      rw [show k + (310 - k) = 310 from by omega] at ht
      exact ⟨t, ht⟩
    · exact ⟨[], by rw [List.append_nil]; exact sieve_one (by rw [sieve_64, h1])⟩
  obtain ⟨t, ht⟩ := e
  have hlt : i < (sieve k).length := by omega
  have e2 : (sieve k).getD i 0 = (sieve 310).getD i 0 := by
    rw [ht, List.getD_eq_getElem?_getD, List.getD_eq_getElem?_getD, List.getElem?_append_left hlt]
  refine ⟨e2, ?_⟩
  rw [e2]
  have hl : i < (sieve 310).length := by rw [sieve_64]; omega
  rw [List.getD_eq_getElem?_getD, List.getElem?_eq_getElem hl]
  have := sieve_bd 310 _ (List.getElem_mem hl)
  simp only [Option.getD_some]
  omega
end Go.Proofs.YtfhglfldmboanaaDoor

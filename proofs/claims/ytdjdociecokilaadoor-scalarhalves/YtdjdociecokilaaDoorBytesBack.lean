/-
  The number of a number's bytes is that number. No function of the program is named here.
-/
import Derived.Test.YtdjdociecokilaaDoorBytesMath
import Derived.Test.YtdjdociecokilaaDoorFromMath
namespace Go.Proofs.YtdjdociecokilaaDoor
open Go.RowKit
theorem byteAt_bd (a0 a1 a2 a3 : Int) (k : Nat) : 0 ≤ byteAt a0 a1 a2 a3 k ∧ byteAt a0 a1 a2 a3 k < 256 := by
  unfold byteAt; omega
theorem bt_bs (B : Nat → Int) (h : ∀ k, 0 ≤ B k ∧ B k < 256) (j : Nat) (hj : j < 32) : bt (bs B) j = B (31 - j) := by
  have key : ∀ n : Int, 0 ≤ n ∧ n < 256 → (((UInt8.ofNat n.toNat).toNat : Nat) : Int) = n := by
    intro n hn
    rw [UInt8.toNat_ofNat']
    omega
  unfold bt bs nsOf
  have : j = 0 ∨ j = 1 ∨ j = 2 ∨ j = 3 ∨ j = 4 ∨ j = 5 ∨ j = 6 ∨ j = 7 ∨ j = 8 ∨ j = 9 ∨ j = 10 ∨ j = 11 ∨ j = 12 ∨ j = 13 ∨ j = 14 ∨ j = 15 ∨ j = 16 ∨ j = 17 ∨ j = 18 ∨ j = 19 ∨ j = 20 ∨ j = 21 ∨ j = 22 ∨ j = 23 ∨ j = 24 ∨ j = 25 ∨ j = 26 ∨ j = 27 ∨ j = 28 ∨ j = 29 ∨ j = 30 ∨ j = 31 := by omega
  rcases this with rfl | rfl | rfl | rfl | rfl | rfl | rfl | rfl | rfl | rfl | rfl | rfl | rfl | rfl | rfl | rfl | rfl | rfl | rfl | rfl | rfl | rfl | rfl | rfl | rfl | rfl | rfl | rfl | rfl | rfl | rfl | rfl <;> exact key _ (h _)
theorem w8_of (x : Int) (h : Lim x) : w8 (x / 2 ^ (7 * 8) % 256) (x / 2 ^ (6 * 8) % 256) (x / 2 ^ (5 * 8) % 256) (x / 2 ^ (4 * 8) % 256) (x / 2 ^ (3 * 8) % 256) (x / 2 ^ (2 * 8) % 256) (x / 2 ^ (1 * 8) % 256) (x / 2 ^ (0 * 8) % 256) = x := by
  unfold Lim at h
  unfold w8
  omega
theorem frW_back {a0 a1 a2 a3 : Int} (ha : Lim4 a0 a1 a2 a3) : frW (bt (bs (byteAt a0 a1 a2 a3))) 0 = a0 ∧ frW (bt (bs (byteAt a0 a1 a2 a3))) 1 = a1 ∧ frW (bt (bs (byteAt a0 a1 a2 a3))) 2 = a2 ∧ frW (bt (bs (byteAt a0 a1 a2 a3))) 3 = a3 := by
  have e : ∀ j, j < 32 → bt (bs (byteAt a0 a1 a2 a3)) j = byteAt a0 a1 a2 a3 (31 - j) := fun j hj => bt_bs _ (byteAt_bd a0 a1 a2 a3) j hj
  unfold frW
  refine ⟨?_, ?_, ?_, ?_⟩
  · rw [e _ (by decide), e _ (by decide), e _ (by decide), e _ (by decide), e _ (by decide), e _ (by decide), e _ (by decide), e _ (by decide)]
    exact w8_of a0 ha.1
  · rw [e _ (by decide), e _ (by decide), e _ (by decide), e _ (by decide), e _ (by decide), e _ (by decide), e _ (by decide), e _ (by decide)]
    exact w8_of a1 ha.2.1
  · rw [e _ (by decide), e _ (by decide), e _ (by decide), e _ (by decide), e _ (by decide), e _ (by decide), e _ (by decide), e _ (by decide)]
    exact w8_of a2 ha.2.2.1
  · rw [e _ (by decide), e _ (by decide), e _ (by decide), e _ (by decide), e _ (by decide), e _ (by decide), e _ (by decide), e _ (by decide)]
    exact w8_of a3 ha.2.2.2
end Go.Proofs.YtdjdociecokilaaDoor

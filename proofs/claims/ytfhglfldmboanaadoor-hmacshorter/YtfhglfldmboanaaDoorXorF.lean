/-
  Bytes xored one after another. No function of the program is named here.
-/
import Derived.Test.YtfhglfldmboanaaDoorHMath
import Derived.Test.YtfhglfldmboanaaDoorTabn
namespace Go.Proofs.YtfhglfldmboanaaDoor
open Go.RowKit
/-- The first i bytes are xored. -/
def xorF (T : Nat → Nat) (x i : Nat) : Nat → Nat := fun j => if j < i then T j ^^^ x else T j
theorem xorF_step (T : Nat → Nat) (x i : Nat) : put (xorF T x i) i (T i ^^^ x) = xorF T x (i + 1) := by
  funext j
  unfold put xorF
  by_cases e : j = i
  · subst e; simp
  · rw [if_neg e]
    by_cases h : j < i
    · rw [if_pos h, if_pos (by omega)]
    · rw [if_neg h, if_neg (by omega)]
theorem xorF_at (T : Nat → Nat) (x i : Nat) : xorF T x i i = T i := if_neg (by omega)
theorem xorF_zero (T : Nat → Nat) (x : Nat) : xorF T x 0 = T := by funext j; exact if_neg (by omega)
theorem padS_of {key K : ByteArray} {x : Nat} (h : keyS key = K) : mkS (xorF (sb K) x 64) 64 = padS key x := by
  unfold padS mkS
  rw [h]
  congr 2
end Go.Proofs.YtfhglfldmboanaaDoor

/-
  Eight words behind any number of blocks: eight, each less than 2^32. No function of the program is named here.
-/
import Derived.Test.YtfhglfldmboanaaDoorBlockMath
namespace Go.Proofs.YtfhglfldmboanaaDoor
theorem hash_eight (s : Nat → Nat) (n k : Nat) : (hashF s n k).length = 8 ∧ ∀ x ∈ hashF s n k, x < 4294967296 := by
  induction k with
  | zero => exact ⟨rfl, (by decide : ∀ x ∈ HH, x < 4294967296)⟩
  | succ k ih =>
    refine ⟨?_, fun x hx => ?_⟩
    · show (blockF _ _ _).length = 8
      unfold blockF
      rw [List.length_zipWith, ih.1, (rd_len ih.1 ih.2 64).1]
      rfl
    · have hx2 : x ∈ List.zipWith (fun x y => (x + y) % 4294967296) (hashF s n k) (rd KK (wl (fun t => word4 (padB s n) (64 * k + 4 * t)) 64) (hashF s n k) 64) := hx
      obtain ⟨i, hi, rfl⟩ := List.mem_iff_getElem.1 hx2
      rw [List.getElem_zipWith]
      exact Nat.mod_lt _ (by decide)
end Go.Proofs.YtfhglfldmboanaaDoor

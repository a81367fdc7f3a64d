/-
  sandglassref07.Blocks, called; the world stays.
-/
import Derived.Test.YtnejnaaielohjaaDoorEx
namespace Go.Proofs.YtnejnaaielohjaaDoor
open Go.RowKit
/-- How many blocks n bytes have, as the document says it. -/
def blkI (n : Int) : Int := if n < 0 ∨ 1152921504606846976 < n then 0 else (n + 8) / 64 + 1
set_option maxHeartbeats 400000 in
theorem refBlocks_any (n : Int) (h1 : -9223372036854775808 ≤ n) (h2 : n ≤ 9223372036854775807) (w : World) :
    Calls Tryd.prog 11 #[.int .i64 n] w fun e w' => e = .returned (.int .i64 (blkI n)) ∧ w' = w := by
  by_cases hn : n < 0
  · have HB : Hid (blkI n = 0) := if_pos (Or.inl hn)
    go_enter Tryd.func11, Tryd.ntmps11
    go_wp2
    go_ret
    exact ⟨by rw [HB.out]; rfl, rfl⟩
  · by_cases hm : 1152921504606846976 < n
    · have HB : Hid (blkI n = 0) := if_pos (Or.inr hm)
      go_enter Tryd.func11, Tryd.ntmps11
      go_wp2
      go_ret
      exact ⟨by rw [HB.out]; rfl, rfl⟩
    · have HB : Hid (blkI n = (n + 8) / 64 + 1) := if_neg (by omega)
      have a1 : IntKind.i64.wrap (n + 8) = n + 8 := by rw [IntKind.wrap_i64]; omega
      have a2 : (n + 8).tdiv 64 = (n + 8) / 64 := Int.tdiv_eq_ediv_of_nonneg (by omega)
      have a3 : IntKind.i64.wrap ((n + 8) / 64 + 1) = (n + 8) / 64 + 1 := by rw [IntKind.wrap_i64]; omega
      go_enter Tryd.func11, Tryd.ntmps11
      go_wp2
      go_ret
      exact ⟨by rw [HB.out]; rfl, rfl⟩
end Go.Proofs.YtnejnaaielohjaaDoor

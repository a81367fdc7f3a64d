/-
  Four words inside a struct compared. No function of the program is named here.
-/
import Derived.Test.YtnaiccfdbapdpaaDoorRefAs
import Derived.Test.YtnaiccfdbapdpaaDoorLows
import Derived.Laws.StructEq
namespace Go.Proofs.YtnaiccfdbapdpaaDoor
open Go.RowKit
theorem run_eq4d (d : Nat) (a0 a1 a2 a3 b0 b1 b2 b3 : Int) (w : World) : (Op.equalIn (d + 1 + 1) 26 (.agg #[.int .u64 a0, .int .u64 a1, .int .u64 a2, .int .u64 a3]) (.agg #[.int .u64 b0, .int .u64 b1, .int .u64 b2, .int .u64 b3])).run Tryd.prog w = .ok (eq4 a0 a1 a2 a3 b0 b1 b2 b3) w := by
  rw [Op.equalIn]
  simp only [Sem.run_bind, run_underlying Tryd.underlying26, Result.andThen_ok]
  simp only [Std.Legacy.Range.forIn_eq_forIn_range', List.range', Std.Legacy.Range.size]
  simp [go_sem, run_equalIn_int, Tryd.underlying24]
  unfold eq4
  by_cases h0 : a0 = b0 <;> by_cases h1 : a1 = b1 <;> by_cases h2 : a2 = b2 <;> by_cases h3 : a3 = b3 <;> simp [h0, h1, h2, h3]
theorem run_eq49 (a0 a1 a2 a3 b0 b1 b2 b3 : Int) (w : World) : (Op.equalIn 9999 26 (.agg #[.int .u64 a0, .int .u64 a1, .int .u64 a2, .int .u64 a3]) (.agg #[.int .u64 b0, .int .u64 b1, .int .u64 b2, .int .u64 b3])).run Tryd.prog w = .ok (eq4 a0 a1 a2 a3 b0 b1 b2 b3) w := run_eq4d 9997 a0 a1 a2 a3 b0 b1 b2 b3 w
end Go.Proofs.YtnaiccfdbapdpaaDoor

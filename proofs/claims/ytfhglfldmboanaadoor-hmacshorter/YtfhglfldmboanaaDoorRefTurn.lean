/-
  sandglassref07.turn, called: turned right; the world stays.
-/
import Derived.Test.YtfhglfldmboanaaDoorTabn
import Derived.Test.YtfhglfldmboanaaDoorShaMath
namespace Go.Proofs.YtfhglfldmboanaaDoor
open Go.RowKit
theorem rotr_lt {x n : Nat} (hx : x < 4294967296) : rotr x n < 4294967296 := by
  unfold rotr
  exact Nat.or_lt_two_pow (n := 32) (Nat.lt_of_le_of_lt (Nat.div_le_self _ _) hx) (Nat.mod_lt _ (by decide))
theorem turn_ok (x n : Nat) (hx : x < 4294967296) : bits BinOp.or IntKind.u32 ((x / 2 ^ n : Nat) : Int) (((x * 2 ^ (32 - n)) % 4294967296 : Nat) : Int) = ((rotr x n : Nat) : Int) :=
  u32_or_nat _ _ (Nat.lt_of_le_of_lt (Nat.div_le_self _ _) hx) (Nat.mod_lt _ (by decide))
theorem turn_int (x n : Nat) (hx : x < 4294967296) : bits BinOp.or IntKind.u32 ((x : Int) / 2 ^ n) ((x : Int) * 2 ^ (32 - n) % 4294967296) = ((rotr x n : Nat) : Int) := by
  rw [← turn_ok x n hx]
  have e1 : (2 : Int) ^ n = ((2 ^ n : Nat) : Int) := (Int.natCast_pow 2 n).symm
  have e2 : (2 : Int) ^ (32 - n) = ((2 ^ (32 - n) : Nat) : Int) := (Int.natCast_pow 2 (32 - n)).symm
  rw [e1, e2]
  generalize (2 : Nat) ^ n = p
  generalize (2 : Nat) ^ (32 - n) = q
  rw [← Int.natCast_mul]
  generalize x * q = z
  rw [show ((z : Int) % 4294967296) = ((z % 4294967296 : Nat) : Int) from by omega, Int.natCast_ediv]
set_option maxHeartbeats 400000 in
theorem turn_any (x n : Nat) (hx : x < 4294967296) (h0 : 0 < n) (hn : n < 32) (w : World) :
    Calls Tryd.prog 39 #[.int .u32 (x : Int), .int .i64 (n : Int)] w fun e w' => e = .returned (.int .u32 ((rotr x n : Nat) : Int)) ∧ w' = w := by
  have h1 : (0 : Int) ≤ (n : Int) := by omega
  have h2 : IntKind.i64.wrap (32 - (n : Int)) = 32 - (n : Int) := by rw [IntKind.wrap_i64]; omega
  go_enter Tryd.func39, Tryd.ntmps39
  go_wp2
  go_ret
  refine ⟨?_, rfl⟩
  rw [← turn_int x n hx]
  rfl
end Go.Proofs.YtfhglfldmboanaaDoor

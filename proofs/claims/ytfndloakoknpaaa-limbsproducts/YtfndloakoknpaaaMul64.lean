/-
  The calls of math/bits.Mul64 and of limbs.mulAdd: whatever the words, the two words of the product, with two words put in; the world stands.
-/
import Derived.Test.YtfndloakoknpaaaLeaf
import Derived.Test.YtfndloakoknpaaaMathB
namespace Go.Proofs.Ytfndloakoknpaaa
open Go.RowKit
set_option maxHeartbeats 400000 in
theorem mul64_raw (x y : Int) (w : World) :
    Calls Try.prog 29 #[.int .u64 x, .int .u64 y] w fun e w' =>
      e = .returned (.tuple #[.int .u64 (mhi x y), .int .u64 (IntKind.u64.wrap (x * y))]) ∧ w' = w := by
  go_enter Try.func29, Try.ntmps29
  go_wp2
  go_ret2
  exact ⟨rfl, rfl⟩
theorem mul64_any (x y : Int) (hx : Lim x) (hy : Lim y) (w : World) :
    Calls Try.prog 29 #[.int .u64 x, .int .u64 y] w fun e w' =>
      ∃ hi lo : Int, e = .returned (.tuple #[.int .u64 hi, .int .u64 lo]) ∧ Hid (Prod1 x y hi lo) ∧ w' = w :=
  (mul64_raw x y w).mono fun _ _ h => ⟨_, _, h.1, mhi_ok x y hx hy, h.2⟩
set_option maxHeartbeats 400000 in
theorem mulAdd_any (x y c d : Int) (hx : Lim x) (hy : Lim y) (hc : Lim c) (hd : Lim d) (w : World) :
    Calls Try.prog 27 #[.int .u64 x, .int .u64 y, .int .u64 c, .int .u64 d] w fun e w' =>
      ∃ hi lo : Int, e = .returned (.tuple #[.int .u64 hi, .int .u64 lo]) ∧ Hid (MulAdd1 x y c d hi lo) ∧ w' = w := by
  go_enter Try.func27, Try.ntmps27
  go_wp2_with fail
  refine (mul64_any x y hx hy _).mono ?_
  rintro e w1 ⟨hi, lo, rfl, HP, rfl⟩
  obtain ⟨l1, k1, H1, e1⟩ := add64_any lo c 0 HP.out.2.1 hc (by omega) (by omega)
  obtain ⟨l2, k2, H2, e2⟩ := add64_any l1 d 0 H1.out.1 hd (by omega) (by omega)
  go_wp2
  go_ret2
  exact ⟨_, _, rfl, mulAdd_ok hx hy hc hd HP.out H1.out H2.out, rfl⟩
/-- The upper and the lower word of x*y + c + d. -/
def hiA (x y c d : Int) : Int := (x * y + c + d) / 18446744073709551616
def loA (x y c d : Int) : Int := (x * y + c + d) % 18446744073709551616
theorem mulAdd1_fn {x y c d hi lo : Int} (h : MulAdd1 x y c d hi lo) : hi = hiA x y c d ∧ lo = loA x y c d := by
  unfold MulAdd1 Lim at h
  unfold hiA loA
  generalize x * y = q at *
  omega
theorem hiloA_ok {x y c d : Int} (hx : Lim x) (hy : Lim y) (hc : Lim c) (hd : Lim d) : MulAdd1 x y c d (hiA x y c d) (loA x y c d) := by
  have hb := prod_bd x y hx hy
  unfold MulAdd1 Lim hiA loA at *
  generalize x * y = q at *
  refine ⟨?_, ?_, ?_⟩ <;> omega
theorem mulAdd_fn (x y c d : Int) (hx : Lim x) (hy : Lim y) (hc : Lim c) (hd : Lim d) (w : World) :
    Calls Try.prog 27 #[.int .u64 x, .int .u64 y, .int .u64 c, .int .u64 d] w fun e w' =>
      e = .returned (.tuple #[.int .u64 (hiA x y c d), .int .u64 (loA x y c d)]) ∧ w' = w :=
  (mulAdd_any x y c d hx hy hc hd w).mono fun _ _ ⟨hi, lo, he, hm, hw⟩ => by
    obtain ⟨rfl, rfl⟩ := mulAdd1_fn hm.out
    exact ⟨he, hw⟩
end Go.Proofs.Ytfndloakoknpaaa

/-
  The calls of limbs.Add and limbs.Sub: the sum with its carry, the difference with its borrow; nothing old is turned.
-/
import Derived.Test.YtnaiccfdbapdpaaDoorLows
namespace Go.Proofs.YtnaiccfdbapdpaaDoor
open Go.RowKit
/-- The library's own entry for Sub64, by its place in the table. -/
def subEntry : Array Value → Sem Value := (Extern.MathBitsCarry.rows.map Prod.snd).getD 1 (fun _ => pure undef)
theorem run_sub64 (x y b : Nat) (hb : b ≤ 1) (w : World) :
    (subEntry #[.int .u64 x, .int .u64 y, .int .u64 b]).run Tryd.prog w =
      .ok (.tuple #[.int .u64 (((x + 18446744073709551616 - y - b) % 18446744073709551616 : Nat) : Int), .int .u64 ((if x < y + b then 1 else 0 : Nat) : Int)]) w := by
  have : b = 0 ∨ b = 1 := by omega
  rcases this with rfl | rfl <;> rfl

theorem add64_any (x y c : Int) (hx : Lim x) (hy : Lim y) (hc0 : 0 ≤ c) (hc : c ≤ 1) : ∃ s k : Int, Hid (Sum1 x y c s k) ∧
    ∀ w, (callFunc 63 #[.int .u64 x, .int .u64 y, .int .u64 c]).run Tryd.prog w = .ok (.value (.tuple #[.int .u64 s, .int .u64 k])) w := by
  unfold Lim at hx hy
  refine ⟨(x + y + c) % 18446744073709551616, (x + y + c) / 18446744073709551616, ?_, fun w => ?_⟩
  · show Sum1 _ _ _ _ _
    unfold Sum1 Lim
    omega
  · rw [run_callFunc_extern Tryd.func63 (by kernel_rfl) (by kernel_rfl) (by kernel_rfl) (e := add64Entry) (by kernel_rfl), run_add64 x y c (by omega) (by omega) (by omega) (by omega)]
    simp only [Result.andThen]
theorem sub64_any (x y c : Int) (hx : Lim x) (hy : Lim y) (hc0 : 0 ≤ c) (hc : c ≤ 1) : ∃ s k : Int, Hid (Dif1 x y c s k) ∧
    ∀ w, (callFunc 69 #[.int .u64 x, .int .u64 y, .int .u64 c]).run Tryd.prog w = .ok (.value (.tuple #[.int .u64 s, .int .u64 k])) w := by
  unfold Lim at hx hy
  obtain ⟨X, rfl⟩ := Int.eq_ofNat_of_zero_le hx.1
  obtain ⟨Y, rfl⟩ := Int.eq_ofNat_of_zero_le hy.1
  obtain ⟨C, rfl⟩ := Int.eq_ofNat_of_zero_le hc0
  refine ⟨(((X + 18446744073709551616 - Y - C) % 18446744073709551616 : Nat) : Int), ((if X < Y + C then 1 else 0 : Nat) : Int), ?_, fun w => ?_⟩
  · show Dif1 _ _ _ _ _
    unfold Dif1 Lim
    split <;> omega
  · rw [run_callFunc_extern Tryd.func69 (by kernel_rfl) (by kernel_rfl) (by kernel_rfl) (e := subEntry) (by kernel_rfl), run_sub64 X Y C (by omega)]
    rfl

set_option maxHeartbeats 400000 in
theorem add_any (a0 a1 a2 a3 b0 b1 b2 b3 : Int) (ha : Lim4 a0 a1 a2 a3) (hb : Lim4 b0 b1 b2 b3) (w : World) :
    Calls Tryd.prog 52 #[.agg #[.int .u64 a0, .int .u64 a1, .int .u64 a2, .int .u64 a3], .agg #[.int .u64 b0, .int .u64 b1, .int .u64 b2, .int .u64 b3]] w fun e w' =>
      ∃ (s0 s1 s2 s3 : Int) (c : Bool), e = .returned (.tuple #[.agg #[.int .u64 s0, .int .u64 s1, .int .u64 s2, .int .u64 s3], .bool c]) ∧ Hid (AddP a0 a1 a2 a3 b0 b1 b2 b3 s0 s1 s2 s3 c) ∧ Ext w w' := by
  obtain ⟨s0, k0, H0, e0⟩ := add64_any a0 b0 0 ha.1 hb.1 (by omega) (by omega)
  obtain ⟨s1, k1, H1, e1⟩ := add64_any a1 b1 k0 ha.2.1 hb.2.1 H0.out.2.1 H0.out.2.2.1
  obtain ⟨s2, k2, H2, e2⟩ := add64_any a2 b2 k1 ha.2.2.1 hb.2.2.1 H1.out.2.1 H1.out.2.2.1
  obtain ⟨s3, k3, H3, e3⟩ := add64_any a3 b3 k2 ha.2.2.2 hb.2.2.2 H2.out.2.1 H2.out.2.2.1
  go_enter Tryd.func52, Tryd.ntmps52
  go_wp2
  refine bodyPost_ret (v := .tuple #[.agg #[.int .u64 s0, .int .u64 s1, .int .u64 s2, .int .u64 s3], .bool (k3 != 0)]) (by simp [results, Tryd.results52, go_sem]) rfl ⟨s0, s1, s2, s3, (k3 != 0), rfl, addP_of H0.out H1.out H2.out H3.out, ?_⟩
  exact (((Ext.refl _).alloc _).alloc _).alloc _
set_option maxHeartbeats 400000 in
theorem sub_any (a0 a1 a2 a3 b0 b1 b2 b3 : Int) (ha : Lim4 a0 a1 a2 a3) (hb : Lim4 b0 b1 b2 b3) (w : World) :
    Calls Tryd.prog 61 #[.agg #[.int .u64 a0, .int .u64 a1, .int .u64 a2, .int .u64 a3], .agg #[.int .u64 b0, .int .u64 b1, .int .u64 b2, .int .u64 b3]] w fun e w' =>
      ∃ (s0 s1 s2 s3 : Int) (c : Bool), e = .returned (.tuple #[.agg #[.int .u64 s0, .int .u64 s1, .int .u64 s2, .int .u64 s3], .bool c]) ∧ Hid (SubP a0 a1 a2 a3 b0 b1 b2 b3 s0 s1 s2 s3 c) ∧ Ext w w' := by
  obtain ⟨s0, k0, H0, e0⟩ := sub64_any a0 b0 0 ha.1 hb.1 (by omega) (by omega)
  obtain ⟨s1, k1, H1, e1⟩ := sub64_any a1 b1 k0 ha.2.1 hb.2.1 H0.out.2.1 H0.out.2.2.1
  obtain ⟨s2, k2, H2, e2⟩ := sub64_any a2 b2 k1 ha.2.2.1 hb.2.2.1 H1.out.2.1 H1.out.2.2.1
  obtain ⟨s3, k3, H3, e3⟩ := sub64_any a3 b3 k2 ha.2.2.2 hb.2.2.2 H2.out.2.1 H2.out.2.2.1
  go_enter Tryd.func61, Tryd.ntmps61
  go_wp2
  refine bodyPost_ret (v := .tuple #[.agg #[.int .u64 s0, .int .u64 s1, .int .u64 s2, .int .u64 s3], .bool (k3 != 0)]) (by simp [results, Tryd.results61, go_sem]) rfl ⟨s0, s1, s2, s3, (k3 != 0), rfl, subP_of H0.out H1.out H2.out H3.out, ?_⟩
  exact (((Ext.refl _).alloc _).alloc _).alloc _
end Go.Proofs.YtnaiccfdbapdpaaDoor

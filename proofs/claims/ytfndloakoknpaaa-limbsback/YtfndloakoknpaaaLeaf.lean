/-
  The calls of limbs.Add and limbs.Sub: whatever the eight words, the sum with its carry, the difference with its borrow; nothing old is turned.
-/
import Derived.Test.YtfndloakoknpaaaRows
import Derived.Test.YtfndloakoknpaaaMath
import Derived.WalkKit
import Derived.WalkSpells
import Derived.WalkLawsBesides
namespace Go.Proofs.Ytfndloakoknpaaa
open Go.RowKit

/-- The library's own entry for Sub64, by its place in the table. -/
def subEntry : Array Value → Sem Value := (Extern.MathBitsCarry.rows.map Prod.snd).getD 1 (fun _ => pure undef)
theorem run_sub64 (x y b : Nat) (hb : b ≤ 1) (w : World) :
    (subEntry #[.int .u64 x, .int .u64 y, .int .u64 b]).run Try.prog w =
      .ok (.tuple #[.int .u64 (((x + 18446744073709551616 - y - b) % 18446744073709551616 : Nat) : Int), .int .u64 ((if x < y + b then 1 else 0 : Nat) : Int)]) w := by
  have : b = 0 ∨ b = 1 := by omega
  rcases this with rfl | rfl <;> rfl

theorem add64_any (x y c : Int) (hx : Lim x) (hy : Lim y) (hc0 : 0 ≤ c) (hc : c ≤ 1) : ∃ s k : Int, Hid (Sum1 x y c s k) ∧
    ∀ w, (callFunc 24 #[.int .u64 x, .int .u64 y, .int .u64 c]).run Try.prog w = .ok (.value (.tuple #[.int .u64 s, .int .u64 k])) w := by
  unfold Lim at hx hy
  refine ⟨(x + y + c) % 18446744073709551616, (x + y + c) / 18446744073709551616, ?_, fun w => ?_⟩
  · show Sum1 _ _ _ _ _
    unfold Sum1 Lim
    omega
  · rw [run_callFunc_extern Try.func24 (by kernel_rfl) (by kernel_rfl) (by kernel_rfl) (e := add64Entry) (by kernel_rfl), run_add64 x y c (by omega) (by omega) (by omega) (by omega)]
    simp only [Result.andThen]
theorem sub64_any (x y c : Int) (hx : Lim x) (hy : Lim y) (hc0 : 0 ≤ c) (hc : c ≤ 1) : ∃ s k : Int, Hid (Dif1 x y c s k) ∧
    ∀ w, (callFunc 25 #[.int .u64 x, .int .u64 y, .int .u64 c]).run Try.prog w = .ok (.value (.tuple #[.int .u64 s, .int .u64 k])) w := by
  unfold Lim at hx hy
  obtain ⟨X, rfl⟩ := Int.eq_ofNat_of_zero_le hx.1
  obtain ⟨Y, rfl⟩ := Int.eq_ofNat_of_zero_le hy.1
  obtain ⟨C, rfl⟩ := Int.eq_ofNat_of_zero_le hc0
  refine ⟨(((X + 18446744073709551616 - Y - C) % 18446744073709551616 : Nat) : Int), ((if X < Y + C then 1 else 0 : Nat) : Int), ?_, fun w => ?_⟩
  · show Dif1 _ _ _ _ _
    unfold Dif1 Lim
    split <;> omega
  · rw [run_callFunc_extern Try.func25 (by kernel_rfl) (by kernel_rfl) (by kernel_rfl) (e := subEntry) (by kernel_rfl), run_sub64 X Y C (by omega)]
    rfl

theorem setCell_drewN (w : World) (a : Addr) (v : Value) (n : Nat) : (w.drewN n).setCell a v = (w.setCell a v).drewN n := rfl
theorem alloc_drewN (w : World) (o : Obj) (n : Nat) : (w.drewN n).alloc o = (w.alloc o).drewN n := rfl
/-- Whatever lay in the world is as it was; new blocks may lie behind. -/
def Ext (w w' : World) : Prop := Below w.heap.size w w'
theorem Ext.refl (w : World) : Ext w w := Below.refl _ _
theorem Ext.trans {a b c : World} (h : Ext a b) (k : Ext b c) : Ext a c := Below.trans h (Below.mono k h.size)
theorem Ext.alloc {a w : World} (h : Ext a w) (o : Obj) : Ext a (w.alloc o) := Below.alloc h h.size o
theorem Ext.drew {a w : World} (h : Ext a w) : Ext a w.drew := Below.drew h
theorem Ext.drewN {a w : World} (h : Ext a w) (n : Nat) : Ext a (w.drewN n) := below_drewN h n
theorem Ext.size {a w : World} (h : Ext a w) : a.heap.size ≤ w.heap.size := Below.size h
theorem Ext.setCell {a w : World} (h : Ext a w) {p : Addr} (hp : a.heap.size ≤ p.block) (u : Value) : Ext a (w.setCell p u) := Below.setCell h hp u
theorem Ext.cells {W w1 : World} (hb : Ext W w1) : (∀ b o, b < W.heap.size → w1.cell? ⟨b, o, none⟩ = W.cell? ⟨b, o, none⟩) ∧ (∀ b o, b < W.heap.size → w1.frozen? ⟨b, o, none⟩ = W.frozen? ⟨b, o, none⟩) :=
  ⟨fun b o h => Below.cell hb (p := ⟨b, o, none⟩) h, fun b o h => Below.frozen hb (p := ⟨b, o, none⟩) h⟩

set_option maxHeartbeats 400000 in
theorem add_any (a0 a1 a2 a3 b0 b1 b2 b3 : Int) (ha : Lim4 a0 a1 a2 a3) (hb : Lim4 b0 b1 b2 b3) (w : World) :
    Calls Try.prog 8 #[.agg #[.int .u64 a0, .int .u64 a1, .int .u64 a2, .int .u64 a3], .agg #[.int .u64 b0, .int .u64 b1, .int .u64 b2, .int .u64 b3]] w fun e w' =>
      ∃ (s0 s1 s2 s3 : Int) (c : Bool), e = .returned (.tuple #[.agg #[.int .u64 s0, .int .u64 s1, .int .u64 s2, .int .u64 s3], .bool c]) ∧ Hid (AddP a0 a1 a2 a3 b0 b1 b2 b3 s0 s1 s2 s3 c) ∧ Ext w w' := by
  obtain ⟨s0, k0, H0, e0⟩ := add64_any a0 b0 0 ha.1 hb.1 (by omega) (by omega)
  obtain ⟨s1, k1, H1, e1⟩ := add64_any a1 b1 k0 ha.2.1 hb.2.1 H0.out.2.1 H0.out.2.2.1
  obtain ⟨s2, k2, H2, e2⟩ := add64_any a2 b2 k1 ha.2.2.1 hb.2.2.1 H1.out.2.1 H1.out.2.2.1
  obtain ⟨s3, k3, H3, e3⟩ := add64_any a3 b3 k2 ha.2.2.2 hb.2.2.2 H2.out.2.1 H2.out.2.2.1
  go_enter Try.func8, Try.ntmps8
  go_wp2
  refine bodyPost_ret (v := .tuple #[.agg #[.int .u64 s0, .int .u64 s1, .int .u64 s2, .int .u64 s3], .bool (k3 != 0)]) (by simp [results, Try.results8, go_sem]) rfl ⟨s0, s1, s2, s3, (k3 != 0), rfl, addP_of H0.out H1.out H2.out H3.out, ?_⟩
  exact (((Ext.refl _).alloc _).alloc _).alloc _
set_option maxHeartbeats 400000 in
theorem sub_any (a0 a1 a2 a3 b0 b1 b2 b3 : Int) (ha : Lim4 a0 a1 a2 a3) (hb : Lim4 b0 b1 b2 b3) (w : World) :
    Calls Try.prog 10 #[.agg #[.int .u64 a0, .int .u64 a1, .int .u64 a2, .int .u64 a3], .agg #[.int .u64 b0, .int .u64 b1, .int .u64 b2, .int .u64 b3]] w fun e w' =>
      ∃ (s0 s1 s2 s3 : Int) (c : Bool), e = .returned (.tuple #[.agg #[.int .u64 s0, .int .u64 s1, .int .u64 s2, .int .u64 s3], .bool c]) ∧ Hid (SubP a0 a1 a2 a3 b0 b1 b2 b3 s0 s1 s2 s3 c) ∧ Ext w w' := by
  obtain ⟨s0, k0, H0, e0⟩ := sub64_any a0 b0 0 ha.1 hb.1 (by omega) (by omega)
  obtain ⟨s1, k1, H1, e1⟩ := sub64_any a1 b1 k0 ha.2.1 hb.2.1 H0.out.2.1 H0.out.2.2.1
  obtain ⟨s2, k2, H2, e2⟩ := sub64_any a2 b2 k1 ha.2.2.1 hb.2.2.1 H1.out.2.1 H1.out.2.2.1
  obtain ⟨s3, k3, H3, e3⟩ := sub64_any a3 b3 k2 ha.2.2.2 hb.2.2.2 H2.out.2.1 H2.out.2.2.1
  go_enter Try.func10, Try.ntmps10
  go_wp2
  refine bodyPost_ret (v := .tuple #[.agg #[.int .u64 s0, .int .u64 s1, .int .u64 s2, .int .u64 s3], .bool (k3 != 0)]) (by simp [results, Try.results10, go_sem]) rfl ⟨s0, s1, s2, s3, (k3 != 0), rfl, subP_of H0.out H1.out H2.out H3.out, ?_⟩
  exact (((Ext.refl _).alloc _).alloc _).alloc _

set_option maxHeartbeats 400000 in
theorem all_any (w : World) : Calls Try.prog 26 #[] w fun e w' => e = .returned (.agg #[.int .u64 18446744073709551615, .int .u64 18446744073709551615, .int .u64 18446744073709551615, .int .u64 18446744073709551615]) ∧ Ext w w' := by
  go_enter Try.func26, Try.ntmps26
  go_wp2
  refine bodyPost_ret (v := .agg #[.int .u64 18446744073709551615, .int .u64 18446744073709551615, .int .u64 18446744073709551615, .int .u64 18446744073709551615]) (by simp [results, Try.results26, go_sem]) rfl ⟨rfl, ?_⟩
  exact (Ext.refl _).alloc _

end Go.Proofs.Ytfndloakoknpaaa

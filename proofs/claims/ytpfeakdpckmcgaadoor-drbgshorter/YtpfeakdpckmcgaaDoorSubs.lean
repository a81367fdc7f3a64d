/-
  The calls of limbs.Add and limbs.Sub: the sum with its carry, the difference with its borrow; nothing old is turned.
  The call of limbs.Cmp.
  scalar.Valid, called where the variable order lies as its initialiser lays it; nothing old is turned.
-/
import Derived.Test.YtpfeakdpckmcgaaDoorLows
import Derived.Test.YtpfeakdpckmcgaaDoorRefAs
namespace Go.Proofs.YtpfeakdpckmcgaaDoor
open Go.RowKit
/-- The library's own entry for Sub64, by its place in the table. -/
def subEntry : Array Value → Sem Value := (Extern.MathBitsCarry.rows.map Prod.snd).getD 1 (fun _ => pure undef)
theorem run_sub64 (x y b : Nat) (hb : b ≤ 1) (w : World) :
    (subEntry #[.int .u64 x, .int .u64 y, .int .u64 b]).run Tryd.prog w =
      .ok (.tuple #[.int .u64 (((x + 18446744073709551616 - y - b) % 18446744073709551616 : Nat) : Int), .int .u64 ((if x < y + b then 1 else 0 : Nat) : Int)]) w := by
  have : b = 0 ∨ b = 1 := by omega
  rcases this with rfl | rfl <;> rfl

theorem sub64_any (x y c : Int) (hx : Lim x) (hy : Lim y) (hc0 : 0 ≤ c) (hc : c ≤ 1) : ∃ s k : Int, Hid (Dif1 x y c s k) ∧
    ∀ w, (callFunc 56 #[.int .u64 x, .int .u64 y, .int .u64 c]).run Tryd.prog w = .ok (.value (.tuple #[.int .u64 s, .int .u64 k])) w := by
  unfold Lim at hx hy
  obtain ⟨X, rfl⟩ := Int.eq_ofNat_of_zero_le hx.1
  obtain ⟨Y, rfl⟩ := Int.eq_ofNat_of_zero_le hy.1
  obtain ⟨C, rfl⟩ := Int.eq_ofNat_of_zero_le hc0
  refine ⟨(((X + 18446744073709551616 - Y - C) % 18446744073709551616 : Nat) : Int), ((if X < Y + C then 1 else 0 : Nat) : Int), ?_, fun w => ?_⟩
  · show Dif1 _ _ _ _ _
    unfold Dif1 Lim
    split <;> omega
  · rw [run_callFunc_extern Tryd.func56 (by kernel_rfl) (by kernel_rfl) (by kernel_rfl) (e := subEntry) (by kernel_rfl), run_sub64 X Y C (by omega)]
    rfl

set_option maxHeartbeats 400000 in
theorem sub_any (a0 a1 a2 a3 b0 b1 b2 b3 : Int) (ha : Lim4 a0 a1 a2 a3) (hb : Lim4 b0 b1 b2 b3) (w : World) :
    Calls Tryd.prog 51 #[.agg #[.int .u64 a0, .int .u64 a1, .int .u64 a2, .int .u64 a3], .agg #[.int .u64 b0, .int .u64 b1, .int .u64 b2, .int .u64 b3]] w fun e w' =>
      ∃ (s0 s1 s2 s3 : Int) (c : Bool), e = .returned (.tuple #[.agg #[.int .u64 s0, .int .u64 s1, .int .u64 s2, .int .u64 s3], .bool c]) ∧ Hid (SubP a0 a1 a2 a3 b0 b1 b2 b3 s0 s1 s2 s3 c) ∧ Ext w w' := by
  obtain ⟨s0, k0, H0, e0⟩ := sub64_any a0 b0 0 ha.1 hb.1 (by omega) (by omega)
  obtain ⟨s1, k1, H1, e1⟩ := sub64_any a1 b1 k0 ha.2.1 hb.2.1 H0.out.2.1 H0.out.2.2.1
  obtain ⟨s2, k2, H2, e2⟩ := sub64_any a2 b2 k1 ha.2.2.1 hb.2.2.1 H1.out.2.1 H1.out.2.2.1
  obtain ⟨s3, k3, H3, e3⟩ := sub64_any a3 b3 k2 ha.2.2.2 hb.2.2.2 H2.out.2.1 H2.out.2.2.1
  go_enter Tryd.func51, Tryd.ntmps51
  go_wp2
  refine bodyPost_ret (v := .tuple #[.agg #[.int .u64 s0, .int .u64 s1, .int .u64 s2, .int .u64 s3], .bool (k3 != 0)]) (by simp [results, Tryd.results51, go_sem]) rfl ⟨s0, s1, s2, s3, (k3 != 0), rfl, subP_of H0.out H1.out H2.out H3.out, ?_⟩
  exact (((Ext.refl _).alloc _).alloc _).alloc _
end Go.Proofs.YtpfeakdpckmcgaaDoor
namespace Go.Proofs.YtpfeakdpckmcgaaDoor
open Go.RowKit
attribute [local go_sem] run_eq4
set_option maxHeartbeats 400000 in
theorem cmp_any (a0 a1 a2 a3 b0 b1 b2 b3 : Int) (ha : Lim4 a0 a1 a2 a3) (hb : Lim4 b0 b1 b2 b3) (w : World) :
    Calls Tryd.prog 45 #[.agg #[.int .u64 a0, .int .u64 a1, .int .u64 a2, .int .u64 a3], .agg #[.int .u64 b0, .int .u64 b1, .int .u64 b2, .int .u64 b3]] w fun e w' =>
      ∃ n : Int, e = .returned (.int .i64 n) ∧ Hid (CmpP (val a0 a1 a2 a3) (val b0 b1 b2 b3) n) ∧ Ext w w' := by
  cases hq : eq4 a0 a1 a2 a3 b0 b1 b2 b3
  · have hne : ¬ val a0 a1 a2 a3 = val b0 b1 b2 b3 := fun h => by have := (eq4_iff ha hb).2 h; simp [hq] at this
    have HN : Hid (¬ val a0 a1 a2 a3 = val b0 b1 b2 b3) := hne
    clear hne
    go_enter Tryd.func45, Tryd.ntmps45
    go_wp2_with fail
    refine (sub_any _ _ _ _ _ _ _ _ ha hb _).mono ?_
    rintro e w1 ⟨s0, s1, s2, s3, c, rfl, HS, HX⟩
    have HC : Hid (c = true ↔ val a0 a1 a2 a3 < val b0 b1 b2 b3) := cmp_of_sub ha hb HS.out
    cases c
    · go_wp2
      go_ret
      exact ⟨_, rfl, Or.inr (Or.inr ⟨rfl, by have h := HC.out; have := HN.out; simp at h; omega⟩), (((Ext.refl _).alloc _).alloc _).trans (HX.alloc _)⟩
    · go_wp2
      go_ret
      exact ⟨_, rfl, Or.inl ⟨rfl, HC.out.1 (by trivial)⟩, (((Ext.refl _).alloc _).alloc _).trans (HX.alloc _)⟩
  · have he : val a0 a1 a2 a3 = val b0 b1 b2 b3 := (eq4_iff ha hb).1 hq
    have HN : Hid (val a0 a1 a2 a3 = val b0 b1 b2 b3) := he
    clear he
    go_enter Tryd.func45, Tryd.ntmps45
    go_wp2
    go_ret
    exact ⟨_, rfl, Or.inr (Or.inl ⟨rfl, HN.out⟩), ((Ext.refl _).alloc _).alloc _⟩
end Go.Proofs.YtpfeakdpckmcgaaDoor
namespace Go.Proofs.YtpfeakdpckmcgaaDoor
open Go.RowKit
/-- scalar's variable order (block 0). -/
def OGl (w : World) : Prop := Row w 0 17562291160714782033 13611842547513532036 18446744073709551615 18446744069414584320
theorem OGl.ext {w w' : World} (h : OGl w) (hx : Ext w w') : OGl w' := Row.ext h hx
set_option maxHeartbeats 400000 in
theorem svalid_any (x0 x1 x2 x3 : Int) (hx : Lim4 x0 x1 x2 x3) (w : World) (hG : OGl w) :
    Calls Tryd.prog 37 #[.agg #[.int .u64 x0, .int .u64 x1, .int .u64 x2, .int .u64 x3]] w fun e w' => e = .returned (.bool (decide (val x0 x1 x2 x3 < FQ))) ∧ Ext w w' := by
  obtain ⟨hl, g0, g1, g2, g3⟩ := hG
  go_enter Tryd.func37, Tryd.ntmps37
  go_wp2_with fail
  refine (cmp_any _ _ _ _ _ _ _ _ hx lim_FQ _).mono ?_
  rintro e wy ⟨n, rfl, HC, HX⟩
  have HC2 : Hid (CmpP (val x0 x1 x2 x3) FQ n) := by
    have h := HC.out
    rw [val_FQ] at h
    exact h
  go_wp2
  go_ret
  exact ⟨by rw [← cmp_lessq HC2.out]; rfl, ((Ext.refl _).alloc _).trans HX⟩
end Go.Proofs.YtpfeakdpckmcgaaDoor

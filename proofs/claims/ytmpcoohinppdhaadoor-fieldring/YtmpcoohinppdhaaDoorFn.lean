/-
  The field's calls with their answers named ahead: a number modulo p has one form.
-/
import Derived.Test.YtmpcoohinppdhaaDoorAwake
namespace Go.Proofs.YtmpcoohinppdhaaDoor
open Go.RowKit
theorem fmod_ex (X : Int) : ∃ r0 r1 r2 r3 : Int, Hid (FMod X r0 r1 r2 r3) := by
  have h1 := Int.emod_nonneg X (show FP ≠ 0 by decide)
  have h2 := Int.emod_lt_of_pos X FP_pos
  refine ⟨X % FP % 18446744073709551616, X % FP / 18446744073709551616 % 18446744073709551616, X % FP / 18446744073709551616 / 18446744073709551616 % 18446744073709551616, X % FP / 18446744073709551616 / 18446744073709551616 / 18446744073709551616, ?_⟩
  show FMod _ _ _ _ _
  suffices h : ∀ V : Int, 0 ≤ V → V < FP → Lim4 (V % 18446744073709551616) (V / 18446744073709551616 % 18446744073709551616) (V / 18446744073709551616 / 18446744073709551616 % 18446744073709551616) (V / 18446744073709551616 / 18446744073709551616 / 18446744073709551616) ∧ val (V % 18446744073709551616) (V / 18446744073709551616 % 18446744073709551616) (V / 18446744073709551616 / 18446744073709551616 % 18446744073709551616) (V / 18446744073709551616 / 18446744073709551616 / 18446744073709551616) = V from h _ h1 h2
  intro V h1 h2
  refine ⟨?_, ?_⟩
  · unfold Lim4 Lim FP at *
    omega
  · unfold val
    omega
theorem eq4_self (x0 x1 x2 x3 : Int) : eq4 x0 x1 x2 x3 x0 x1 x2 x3 = true := by simp [eq4]
theorem fmul_fn {X : Int} {x0 x1 x2 x3 y0 y1 y2 y3 r0 r1 r2 r3 : Int} (hx : Lim4 x0 x1 x2 x3) (hy : Lim4 y0 y1 y2 y3) (hr : FMod X r0 r1 r2 r3) (he : (val x0 x1 x2 x3 * val y0 y1 y2 y3) % FP = X % FP) (wx : World) (hG : Gl wx) :
    Calls Tryd.prog 15 #[.agg #[.int .u64 x0, .int .u64 x1, .int .u64 x2, .int .u64 x3], .agg #[.int .u64 y0, .int .u64 y1, .int .u64 y2, .int .u64 y3]] wx fun e w' => e = .returned (.agg #[.int .u64 r0, .int .u64 r1, .int .u64 r2, .int .u64 r3]) ∧ Ext wx w' :=
  (fmul_any _ _ _ _ _ _ _ _ hx hy wx hG).mono fun _ _ ⟨s0, s1, s2, s3, h1, h2, h3⟩ => by
    obtain ⟨rfl, rfl, rfl, rfl⟩ := h2.out.one hr he
    exact ⟨h1, h3⟩
theorem fadd_fn {X : Int} {x0 x1 x2 x3 y0 y1 y2 y3 r0 r1 r2 r3 : Int} (hx : Lim4 x0 x1 x2 x3) (hy : Lim4 y0 y1 y2 y3) (hr : FMod X r0 r1 r2 r3) (he : (val x0 x1 x2 x3 + val y0 y1 y2 y3) % FP = X % FP) (wx : World) :
    Calls Tryd.prog 6 #[.agg #[.int .u64 x0, .int .u64 x1, .int .u64 x2, .int .u64 x3], .agg #[.int .u64 y0, .int .u64 y1, .int .u64 y2, .int .u64 y3]] wx fun e w' => e = .returned (.agg #[.int .u64 r0, .int .u64 r1, .int .u64 r2, .int .u64 r3]) ∧ Ext wx w' :=
  (fadd_any _ _ _ _ _ _ _ _ hx hy wx).mono fun _ _ ⟨s0, s1, s2, s3, h1, h2, h3⟩ => by
    obtain ⟨rfl, rfl, rfl, rfl⟩ := h2.out.one hr he
    exact ⟨h1, h3⟩
theorem fsub_fn {X : Int} {x0 x1 x2 x3 y0 y1 y2 y3 r0 r1 r2 r3 : Int} (hx : Lim4 x0 x1 x2 x3) (hy : Lim4 y0 y1 y2 y3) (hr : FMod X r0 r1 r2 r3) (he : (val x0 x1 x2 x3 - val y0 y1 y2 y3) % FP = X % FP) (wx : World) (hG : Gl wx) :
    Calls Tryd.prog 8 #[.agg #[.int .u64 x0, .int .u64 x1, .int .u64 x2, .int .u64 x3], .agg #[.int .u64 y0, .int .u64 y1, .int .u64 y2, .int .u64 y3]] wx fun e w' => e = .returned (.agg #[.int .u64 r0, .int .u64 r1, .int .u64 r2, .int .u64 r3]) ∧ Ext wx w' :=
  (fsub_any _ _ _ _ _ _ _ _ hx hy wx hG).mono fun _ _ ⟨s0, s1, s2, s3, h1, h2, h3⟩ => by
    obtain ⟨rfl, rfl, rfl, rfl⟩ := h2.out.one hr he
    exact ⟨h1, h3⟩
theorem radd_fn {X : Int} {x0 x1 x2 x3 y0 y1 y2 y3 r0 r1 r2 r3 : Int} (hx : Lim4 x0 x1 x2 x3) (hy : Lim4 y0 y1 y2 y3) (hr : FMod X r0 r1 r2 r3) (he : (val x0 x1 x2 x3 + val y0 y1 y2 y3) % FP = X % FP) (wx : World) :
    Calls Tryd.prog 7 #[.agg #[.int .u64 x0, .int .u64 x1, .int .u64 x2, .int .u64 x3], .agg #[.int .u64 y0, .int .u64 y1, .int .u64 y2, .int .u64 y3]] wx fun e w' => e = .returned (.agg #[.int .u64 r0, .int .u64 r1, .int .u64 r2, .int .u64 r3]) ∧ Ext wx w' :=
  (refFAdd_any _ _ _ _ _ _ _ _ hx hy wx).mono fun _ _ ⟨s0, s1, s2, s3, h1, h2, h3⟩ => by
    obtain ⟨rfl, rfl, rfl, rfl⟩ := h2.out.one hr he
    exact ⟨h1, h3⟩
theorem rsub_fn {X : Int} {x0 x1 x2 x3 y0 y1 y2 y3 r0 r1 r2 r3 : Int} (hx : Lim4 x0 x1 x2 x3) (hy : Lim4 y0 y1 y2 y3) (hr : FMod X r0 r1 r2 r3) (he : (val x0 x1 x2 x3 - val y0 y1 y2 y3) % FP = X % FP) (wx : World) :
    Calls Tryd.prog 9 #[.agg #[.int .u64 x0, .int .u64 x1, .int .u64 x2, .int .u64 x3], .agg #[.int .u64 y0, .int .u64 y1, .int .u64 y2, .int .u64 y3]] wx fun e w' => e = .returned (.agg #[.int .u64 r0, .int .u64 r1, .int .u64 r2, .int .u64 r3]) ∧ Ext wx w' :=
  (refFSub_any _ _ _ _ _ _ _ _ hx hy wx).mono fun _ _ ⟨s0, s1, s2, s3, h1, h2, h3⟩ => by
    obtain ⟨rfl, rfl, rfl, rfl⟩ := h2.out.one hr he
    exact ⟨h1, h3⟩
end Go.Proofs.YtmpcoohinppdhaaDoor

/-
  Scalar's calls with their answers named ahead: a number modulo q has one form.
-/
import Derived.Test.YtdjdociecokilaaDoorSAwake
namespace Go.Proofs.YtdjdociecokilaaDoor
open Go.RowKit
theorem qmod_ex (X : Int) : ∃ r0 r1 r2 r3 : Int, Hid (QMod X r0 r1 r2 r3) := by
  have h1 := Int.emod_nonneg X (show FQ ≠ 0 by decide)
  have h2 := Int.emod_lt_of_pos X FQ_pos
  refine ⟨X % FQ % 18446744073709551616, X % FQ / 18446744073709551616 % 18446744073709551616, X % FQ / 18446744073709551616 / 18446744073709551616 % 18446744073709551616, X % FQ / 18446744073709551616 / 18446744073709551616 / 18446744073709551616, ?_⟩
  show QMod _ _ _ _ _
  suffices h : ∀ V : Int, 0 ≤ V → V < FQ → Lim4 (V % 18446744073709551616) (V / 18446744073709551616 % 18446744073709551616) (V / 18446744073709551616 / 18446744073709551616 % 18446744073709551616) (V / 18446744073709551616 / 18446744073709551616 / 18446744073709551616) ∧ val (V % 18446744073709551616) (V / 18446744073709551616 % 18446744073709551616) (V / 18446744073709551616 / 18446744073709551616 % 18446744073709551616) (V / 18446744073709551616 / 18446744073709551616 / 18446744073709551616) = V from h _ h1 h2
  intro V h1 h2
  refine ⟨?_, ?_⟩
  · unfold Lim4 Lim FQ at *
    omega
  · unfold val
    omega
theorem eq4_self (x0 x1 x2 x3 : Int) : eq4 x0 x1 x2 x3 x0 x1 x2 x3 = true := by simp [eq4]
theorem smul_fn {X : Int} {x0 x1 x2 x3 y0 y1 y2 y3 r0 r1 r2 r3 : Int} (hx : Lim4 x0 x1 x2 x3) (hy : Lim4 y0 y1 y2 y3) (hr : QMod X r0 r1 r2 r3) (he : (val x0 x1 x2 x3 * val y0 y1 y2 y3) % FQ = X % FQ) (wx : World) (hG : Gl wx) :
    Calls Tryd.prog 18 #[.agg #[.int .u64 x0, .int .u64 x1, .int .u64 x2, .int .u64 x3], .agg #[.int .u64 y0, .int .u64 y1, .int .u64 y2, .int .u64 y3]] wx fun e w' => e = .returned (.agg #[.int .u64 r0, .int .u64 r1, .int .u64 r2, .int .u64 r3]) ∧ Ext wx w' :=
  (smul_any _ _ _ _ _ _ _ _ hx hy wx hG).mono fun _ _ ⟨s0, s1, s2, s3, h1, h2, h3⟩ => by
    obtain ⟨rfl, rfl, rfl, rfl⟩ := h2.out.one hr he
    exact ⟨h1, h3⟩
theorem sadd_fn {X : Int} {x0 x1 x2 x3 y0 y1 y2 y3 r0 r1 r2 r3 : Int} (hx : Lim4 x0 x1 x2 x3) (hy : Lim4 y0 y1 y2 y3) (hr : QMod X r0 r1 r2 r3) (he : (val x0 x1 x2 x3 + val y0 y1 y2 y3) % FQ = X % FQ) (wx : World) (hG : Gl wx) :
    Calls Tryd.prog 9 #[.agg #[.int .u64 x0, .int .u64 x1, .int .u64 x2, .int .u64 x3], .agg #[.int .u64 y0, .int .u64 y1, .int .u64 y2, .int .u64 y3]] wx fun e w' => e = .returned (.agg #[.int .u64 r0, .int .u64 r1, .int .u64 r2, .int .u64 r3]) ∧ Ext wx w' :=
  (sadd_any _ _ _ _ _ _ _ _ hx hy wx hG).mono fun _ _ ⟨s0, s1, s2, s3, h1, h2, h3⟩ => by
    obtain ⟨rfl, rfl, rfl, rfl⟩ := h2.out.one hr he
    exact ⟨h1, h3⟩
theorem ssub_fn {X : Int} {x0 x1 x2 x3 y0 y1 y2 y3 r0 r1 r2 r3 : Int} (hx : Lim4 x0 x1 x2 x3) (hy : Lim4 y0 y1 y2 y3) (hr : QMod X r0 r1 r2 r3) (he : (val x0 x1 x2 x3 - val y0 y1 y2 y3) % FQ = X % FQ) (wx : World) (hG : Gl wx) :
    Calls Tryd.prog 11 #[.agg #[.int .u64 x0, .int .u64 x1, .int .u64 x2, .int .u64 x3], .agg #[.int .u64 y0, .int .u64 y1, .int .u64 y2, .int .u64 y3]] wx fun e w' => e = .returned (.agg #[.int .u64 r0, .int .u64 r1, .int .u64 r2, .int .u64 r3]) ∧ Ext wx w' :=
  (ssub_any _ _ _ _ _ _ _ _ hx hy wx hG).mono fun _ _ ⟨s0, s1, s2, s3, h1, h2, h3⟩ => by
    obtain ⟨rfl, rfl, rfl, rfl⟩ := h2.out.one hr he
    exact ⟨h1, h3⟩
theorem rsadd_fn {X : Int} {x0 x1 x2 x3 y0 y1 y2 y3 r0 r1 r2 r3 : Int} (hx : Lim4 x0 x1 x2 x3) (hy : Lim4 y0 y1 y2 y3) (hr : QMod X r0 r1 r2 r3) (he : (val x0 x1 x2 x3 + val y0 y1 y2 y3) % FQ = X % FQ) (wx : World) :
    Calls Tryd.prog 10 #[.agg #[.int .u64 x0, .int .u64 x1, .int .u64 x2, .int .u64 x3], .agg #[.int .u64 y0, .int .u64 y1, .int .u64 y2, .int .u64 y3]] wx fun e w' => e = .returned (.agg #[.int .u64 r0, .int .u64 r1, .int .u64 r2, .int .u64 r3]) ∧ Ext wx w' :=
  (refSAdd_any _ _ _ _ _ _ _ _ hx hy wx).mono fun _ _ ⟨s0, s1, s2, s3, h1, h2, h3⟩ => by
    obtain ⟨rfl, rfl, rfl, rfl⟩ := h2.out.one hr he
    exact ⟨h1, h3⟩
theorem rssub_fn {X : Int} {x0 x1 x2 x3 y0 y1 y2 y3 r0 r1 r2 r3 : Int} (hx : Lim4 x0 x1 x2 x3) (hy : Lim4 y0 y1 y2 y3) (hr : QMod X r0 r1 r2 r3) (he : (val x0 x1 x2 x3 - val y0 y1 y2 y3) % FQ = X % FQ) (wx : World) :
    Calls Tryd.prog 12 #[.agg #[.int .u64 x0, .int .u64 x1, .int .u64 x2, .int .u64 x3], .agg #[.int .u64 y0, .int .u64 y1, .int .u64 y2, .int .u64 y3]] wx fun e w' => e = .returned (.agg #[.int .u64 r0, .int .u64 r1, .int .u64 r2, .int .u64 r3]) ∧ Ext wx w' :=
  (refSSub_any _ _ _ _ _ _ _ _ hx hy wx).mono fun _ _ ⟨s0, s1, s2, s3, h1, h2, h3⟩ => by
    obtain ⟨rfl, rfl, rfl, rfl⟩ := h2.out.one hr he
    exact ⟨h1, h3⟩
end Go.Proofs.YtdjdociecokilaaDoor

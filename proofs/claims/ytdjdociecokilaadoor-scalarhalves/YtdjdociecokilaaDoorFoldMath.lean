/-
  What scalar.fold and scalar.modulo reckon: 2^256 is 2^256 - q modulo q; no Go in this text.
-/
import Derived.Test.YtdjdociecokilaaDoorQMath
namespace Go.Proofs.YtdjdociecokilaaDoor
/-- 2^256 - q. -/
def CQ : Int := 26959946660873538059280334323273029441504803697035324946844617595567
theorem CQ_FQ : FQ = B256 - CQ := by decide
/-- The number of eight words, the lowest first. -/
def v8 (r0 r1 r2 r3 r4 r5 r6 r7 : Int) : Int := val r0 r1 r2 r3 + B256 * val r4 r5 r6 r7
/-- Five words behind a fold: what stood there, and over times 2^256 - q. -/
def FoldP (o r0 r1 r2 r3 s0 s1 s2 s3 s4 : Int) : Prop := Lim4 s0 s1 s2 s3 ∧ Lim s4 ∧ val s0 s1 s2 s3 + B256 * s4 = val r0 r1 r2 r3 + o * CQ
theorem fold_of {o r0 r1 r2 r3 u0 w0 u1 w1 w4 w3 x1 k s0 k0 s1 k1 s2 k2 s3 k3 : Int} (ho : Lim o)
    (p0 : Prod1 o 884452912994769583 u0 w0) (p1 : Prod1 o 4834901526196019579 u1 w1) (p3 : Prod1 o 4294967295 w4 w3) (a : Sum1 w1 u0 0 x1 k)
    (a0 : Sum1 r0 w0 0 s0 k0) (a1 : Sum1 r1 x1 k0 s1 k1) (a2 : Sum1 r2 (IntKind.u64.wrap (u1 + k)) k1 s2 k2) (a3 : Sum1 r3 w3 k2 s3 k3) :
    FoldP o r0 r1 r2 r3 s0 s1 s2 s3 (IntKind.u64.wrap (IntKind.u64.wrap (w4 + k3))) := by
  have hu : u1 + k < 18446744073709551616 ∧ 0 ≤ u1 + k := by
    unfold Prod1 Sum1 Lim at *
    clear a0 a1 a2 a3 p0 p3
    omega
  have hw : w4 + k3 < 18446744073709551616 ∧ 0 ≤ w4 + k3 := by
    unfold Prod1 Sum1 Lim at *
    clear a a0 a1 a2 p0 p1 hu
    omega
  have e1 : IntKind.u64.wrap (u1 + k) = u1 + k := by rw [IntKind.wrap_u64]; omega
  have e2 : IntKind.u64.wrap (w4 + k3) = w4 + k3 := by rw [IntKind.wrap_u64]; omega
  rw [e1] at a2
  rw [e2, e2]
  clear e1 e2 hu
  obtain ⟨_, _, q0⟩ := p0
  obtain ⟨_, _, q1⟩ := p1
  obtain ⟨_, _, q3⟩ := p3
  refine ⟨⟨a0.1, a1.1, a2.1, a3.1⟩, ⟨hw.2, hw.1⟩, ?_⟩
  have b := a.2.2.2
  have b0 := a0.2.2.2
  have b1 := a1.2.2.2
  have b2 := a2.2.2.2
  have b3 := a3.2.2.2
  clear a a0 a1 a2 a3 ho hw
  unfold val B256 CQ
  omega
theorem wrap_lim (u1 k : Int) : Lim (IntKind.u64.wrap (u1 + k)) := by
  rw [IntKind.wrap_u64]; unfold Lim; omega
def Lim8 (r0 r1 r2 r3 r4 r5 r6 r7 : Int) : Prop := Lim4 r0 r1 r2 r3 ∧ Lim4 r4 r5 r6 r7
theorem round3 {r0 r1 r2 r3 r4 r5 r6 r7 s0 s1 s2 s3 s4 : Int} (h : Lim8 r0 r1 r2 r3 r4 r5 r6 r7) (f : FoldP r7 r3 r4 r5 r6 s0 s1 s2 s3 s4) :
    Lim8 r0 r1 r2 s0 s1 s2 s3 s4 ∧ v8 r0 r1 r2 s0 s1 s2 s3 s4 = v8 r0 r1 r2 r3 r4 r5 r6 r7 + FQ * (-(6277101735386680763835789423207666416102355444464034512896 * r7)) := by
  unfold FoldP at f
  unfold Lim8 Lim4 Lim v8 val B256 CQ FQ at *
  omega
theorem round2 {r0 r1 r2 r3 r4 r5 r6 s0 s1 s2 s3 s4 : Int} (h : Lim8 r0 r1 r2 r3 r4 r5 r6 0) (f : FoldP r6 r2 r3 r4 r5 s0 s1 s2 s3 s4) :
    Lim8 r0 r1 s0 s1 s2 s3 s4 0 ∧ v8 r0 r1 s0 s1 s2 s3 s4 0 = v8 r0 r1 r2 r3 r4 r5 r6 0 + FQ * (-(340282366920938463463374607431768211456 * r6)) := by
  unfold FoldP at f
  unfold Lim8 Lim4 Lim v8 val B256 CQ FQ at *
  omega
theorem round1 {r0 r1 r2 r3 r4 r5 s0 s1 s2 s3 s4 : Int} (h : Lim8 r0 r1 r2 r3 r4 r5 0 0) (f : FoldP r5 r1 r2 r3 r4 s0 s1 s2 s3 s4) :
    Lim8 r0 s0 s1 s2 s3 s4 0 0 ∧ v8 r0 s0 s1 s2 s3 s4 0 0 = v8 r0 r1 r2 r3 r4 r5 0 0 + FQ * (-(18446744073709551616 * r5)) := by
  unfold FoldP at f
  unfold Lim8 Lim4 Lim v8 val B256 CQ FQ at *
  omega
theorem round0 {r0 r1 r2 r3 r4 s0 s1 s2 s3 s4 : Int} (_h : Lim8 r0 r1 r2 r3 r4 0 0 0) (f : FoldP r4 r0 r1 r2 r3 s0 s1 s2 s3 s4) :
    Lim8 s0 s1 s2 s3 s4 0 0 0 ∧ v8 s0 s1 s2 s3 s4 0 0 0 = v8 r0 r1 r2 r3 r4 0 0 0 + FQ * (-(1 * r4)) := by
  unfold FoldP at f
  unfold Lim8 Lim4 Lim v8 val B256 CQ FQ at *
  omega
theorem v8_pos {r0 r1 r2 r3 r4 r5 r6 r7 : Int} (h : Lim8 r0 r1 r2 r3 r4 r5 r6 r7) : 0 ≤ v8 r0 r1 r2 r3 r4 r5 r6 r7 := by
  unfold Lim8 Lim4 Lim at h; unfold v8 val B256; omega
/-- A round takes a multiple of q away. -/
theorem less_of {V V' m o : Int} (hm : 0 < m) (ho : 0 < o) (h' : 0 ≤ V') (e : V' = V + FQ * (-(m * o))) : V'.toNat < V.toNat := by
  have h1 : 0 < m * o := Int.mul_pos hm ho
  have h2 : 0 < FQ * (m * o) := Int.mul_pos FQ_pos h1
  rw [Int.mul_neg] at e
  omega
end Go.Proofs.YtdjdociecokilaaDoor

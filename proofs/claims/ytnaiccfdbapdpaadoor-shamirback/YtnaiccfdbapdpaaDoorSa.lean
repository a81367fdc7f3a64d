/-
  scalar.least, called where the package's variables hold what their initialisers lay: the number modulo q; nothing old is turned.
-/
import Derived.Test.YtnaiccfdbapdpaaDoorFold
import Derived.Test.YtnaiccfdbapdpaaDoorRefAs
namespace Go.Proofs.YtnaiccfdbapdpaaDoor
open Go.RowKit
/-- The package's variables hold what their initialisers lay. -/
def Gl (w : World) : Prop := Row w 0 17562291160714782033 13611842547513532036 18446744073709551615 18446744069414584320 ∧ Row w 1 17562291160714782031 13611842547513532036 18446744073709551615 18446744069414584320
theorem Gl.ext {w w' : World} (h : Gl w) (hx : Ext w w') : Gl w' := ⟨h.1.ext hx, h.2.ext hx⟩
theorem least_true {x0 x1 x2 x3 s0 s1 s2 s3 : Int} (hx : Lim4 x0 x1 x2 x3) (h : SubP x0 x1 x2 x3 17562291160714782033 13611842547513532036 18446744073709551615 18446744069414584320 s0 s1 s2 s3 true) : QMod (val x0 x1 x2 x3) x0 x1 x2 x3 := by
  have h2 := h.2
  have h3 := val_bd h.1
  rw [val_FQ] at h2
  simp at h2
  exact qmod_less hx (by omega)
theorem least_false {x0 x1 x2 x3 s0 s1 s2 s3 : Int} (hx : Lim4 x0 x1 x2 x3) (h : SubP x0 x1 x2 x3 17562291160714782033 13611842547513532036 18446744073709551615 18446744069414584320 s0 s1 s2 s3 false) : QMod (val x0 x1 x2 x3) s0 s1 s2 s3 := by
  have h2 := h.2
  have h3 := val_bd hx
  rw [val_FQ] at h2
  simp at h2
  refine (qmod_less h.1 ?_).cong (emodq_of (-1) (by omega))
  unfold B256 at h3; unfold FQ at *
  omega
set_option maxHeartbeats 400000 in
theorem least_any (x0 x1 x2 x3 : Int) (hx : Lim4 x0 x1 x2 x3) (w : World) (hG : Gl w) :
    Calls Tryd.prog 53 #[.agg #[.int .u64 x0, .int .u64 x1, .int .u64 x2, .int .u64 x3]] w fun e w' => ∃ r0 r1 r2 r3 : Int, e = .returned (.agg #[.int .u64 r0, .int .u64 r1, .int .u64 r2, .int .u64 r3]) ∧ Hid (QMod (val x0 x1 x2 x3) r0 r1 r2 r3) ∧ Ext w w' := by
  have RA := Row.new w x0 x1 x2 x3
  have RZ := RowF.new (w.alloc (.cells #[.int .u64 x0, .int .u64 x1, .int .u64 x2, .int .u64 x3] 26)) 0 0 0 0
  rw [show (w.alloc (.cells #[.int .u64 x0, .int .u64 x1, .int .u64 x2, .int .u64 x3] 26)).heap.size = w.heap.size + 1 from by simp] at RZ
  have HE0 : Hid (Ext w ((w.alloc (.cells #[.int .u64 x0, .int .u64 x1, .int .u64 x2, .int .u64 x3] 26)).alloc (.cells #[.int .u64 0, .int .u64 0, .int .u64 0, .int .u64 0] 26))) := ((Ext.refl _).alloc _).alloc _
  have HB : SizeLe w (w.heap.size + 1) := by unfold SizeLe; omega
  have RA2 := RA.ext ((Ext.refl _).alloc (.cells #[.int .u64 0, .int .u64 0, .int .u64 0, .int .u64 0] 26))
  obtain ⟨hl, g0, g1, g2, g3⟩ := hG.1
  clear hG RA
  go_enter Tryd.func53, Tryd.ntmps53
  go_wp2_with fail
  refine (sub_any _ _ _ _ _ _ _ _ hx lim_FQ _).mono ?_
  rintro e wy ⟨s0, s1, s2, s3, c, rfl, HS, HX⟩
  have RZ2 := RZ.ext HX
  have RA3 := RA2.ext HX
  have HE2 : Hid (Ext w wy) := HE0.out.trans HX
  have hlt : w.heap.size + 1 < wy.heap.size := RZ2.1.1
  clear HX hl g0 g1 g2 g3
  obtain ⟨⟨lz, c0, c1, c2, c3⟩, f0, f1, f2, f3⟩ := RZ2
  obtain ⟨la, a0, a1, a2, a3⟩ := RA3
  generalize w.heap.size = n at *
  cases c
  case true =>
    go_wp2
    refine bodyPost_ret (v := .agg #[.int .u64 x0, .int .u64 x1, .int .u64 x2, .int .u64 x3]) (by simp [results, Tryd.results53, go_sem, c0, c1, c2, c3, hlt]) rfl ⟨x0, x1, x2, x3, rfl, least_true hx HS.out, ?_⟩
    exact (Ext.st HB (Ext.st HB (Ext.st HB (Ext.st HB HE2.out)))).alloc _
  case false =>
    go_wp2
    refine bodyPost_ret (v := .agg #[.int .u64 s0, .int .u64 s1, .int .u64 s2, .int .u64 s3]) (by simp [results, Tryd.results53, go_sem, c0, c1, c2, c3, hlt]) rfl ⟨s0, s1, s2, s3, rfl, least_false hx HS.out, ?_⟩
    exact (Ext.st HB (Ext.st HB (Ext.st HB (Ext.st HB HE2.out)))).alloc _
end Go.Proofs.YtnaiccfdbapdpaaDoor

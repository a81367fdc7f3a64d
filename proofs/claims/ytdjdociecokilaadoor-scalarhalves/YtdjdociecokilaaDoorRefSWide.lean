/-
  The document's number of 64 bytes modulo q (sandglassref03.Wide), called; nothing old is turned.
-/
import Derived.Test.YtdjdociecokilaaDoorRefWide
import Derived.Test.YtdjdociecokilaaDoorRefFromx
namespace Go.Proofs.YtdjdociecokilaaDoor
open Go.RowKit
set_option maxHeartbeats 400000 in
theorem refSWide_bad (s : ByteArray) (_hs : s.size ≤ maxLen) (hn : s.size ≠ 64) (w : World) :
    Calls Tryd.prog 23 #[.string s] w fun e w' => e = .returned (.tuple #[.agg #[.int .u64 0, .int .u64 0, .int .u64 0, .int .u64 0], .int .i64 2]) ∧ Ext w w' := by
  unfold maxLen at _hs
  have hne : ((s.size : Int) != 64) = true := by simp; omega
  go_enter Tryd.func23, Tryd.ntmps23
  go_wp2
  refine bodyPost_ret (v := .tuple #[.agg #[.int .u64 0, .int .u64 0, .int .u64 0, .int .u64 0], .int .i64 2]) (by simp [results, Tryd.results23, go_sem]) rfl ⟨rfl, ?_⟩
  exact (Ext.refl _).alloc _
theorem frW_lim4 (s : ByteArray) : Lim4 (frW (bt s) 0) (frW (bt s) 1) (frW (bt s) 2) (frW (bt s) 3) := ⟨frW_lim _ (bt_bd s) 0, frW_lim _ (bt_bd s) 1, frW_lim _ (bt_bd s) 2, frW_lim _ (bt_bd s) 3⟩
/-- The number of a text's first 32 bytes. -/
def num (s : ByteArray) : Int := val (frW (bt s) 0) (frW (bt s) 1) (frW (bt s) 2) (frW (bt s) 3)
set_option maxHeartbeats 1000000 in
theorem refSWide_any (s : ByteArray) (hn : s.size = 64) (w : World) :
    Calls Tryd.prog 23 #[.string s] w fun e w' => ∃ r0 r1 r2 r3 : Int, e = .returned (.tuple #[.agg #[.int .u64 r0, .int .u64 r1, .int .u64 r2, .int .u64 r3], .int .i64 0]) ∧ Hid (QMod (num (s.extract 32 64) + B256 * num (s.extract 0 32)) r0 r1 r2 r3) ∧ Ext w w' := by
  have hne : ((s.size : Int) != 64) = false := by simp; omega
  have s1 : (s.extract 0 32).size = 32 := by simp; omega
  have s2 : (s.extract 32 64).size = 32 := by simp; omega
  have RZ := RowF.new w 0 0 0 0
  have HE0 : Hid (Ext w (w.alloc (.cells #[.int .u64 0, .int .u64 0, .int .u64 0, .int .u64 0] 24))) := (Ext.refl _).alloc _
  have HB : SizeLe w w.heap.size := Nat.le_refl _
  go_enter Tryd.func23, Tryd.ntmps23
  go_wp2_with fail
  refine (refFrom_any _ s1 _).mono ?_
  rintro e w1 ⟨rfl, HX⟩
  obtain ⟨h0, h1, h2, h3, HH⟩ : ∃ h0 h1 h2 h3 : Int, Hid (frW (bt (s.extract 0 32)) 0 = h0 ∧ frW (bt (s.extract 0 32)) 1 = h1 ∧ frW (bt (s.extract 0 32)) 2 = h2 ∧ frW (bt (s.extract 0 32)) 3 = h3) := ⟨_, _, _, _, rfl, rfl, rfl, rfl⟩
  rw [HH.out.1, HH.out.2.1, HH.out.2.2.1, HH.out.2.2.2]
  have RZ1 := (RZ.ext HX).ext ((Ext.refl _).alloc (.cells #[.int .u64 h0, .int .u64 h1, .int .u64 h2, .int .u64 h3] 24))
  have RH := Row.new w1 h0 h1 h2 h3
  have HE1 : Hid (Ext w (w1.alloc (.cells #[.int .u64 h0, .int .u64 h1, .int .u64 h2, .int .u64 h3] 24))) := (HE0.out.trans HX).alloc _
  clear HX HE0 RZ
  go_wp2_with fail
  generalize w1.alloc (.cells #[.int .u64 h0, .int .u64 h1, .int .u64 h2, .int .u64 h3] 24) = W1 at *
  generalize w1.heap.size = bh at *
  refine (refFrom_any _ s2 _).mono ?_
  rintro e w2 ⟨rfl, HX⟩
  obtain ⟨l0, l1, l2, l3, HL⟩ : ∃ h0 h1 h2 h3 : Int, Hid (frW (bt (s.extract 32 64)) 0 = h0 ∧ frW (bt (s.extract 32 64)) 1 = h1 ∧ frW (bt (s.extract 32 64)) 2 = h2 ∧ frW (bt (s.extract 32 64)) 3 = h3) := ⟨_, _, _, _, rfl, rfl, rfl, rfl⟩
  rw [HL.out.1, HL.out.2.1, HL.out.2.2.1, HL.out.2.2.2]
  have RZ2 := (RZ1.ext HX).ext ((Ext.refl _).alloc (.cells #[.int .u64 l0, .int .u64 l1, .int .u64 l2, .int .u64 l3] 24))
  have HE2 : Hid (Ext w (w2.alloc (.cells #[.int .u64 l0, .int .u64 l1, .int .u64 l2, .int .u64 l3] 24))) := (HE1.out.trans HX).alloc _
  obtain ⟨lh, g0, g1, g2, g3⟩ := (RH.ext HX).ext ((Ext.refl _).alloc (.cells #[.int .u64 l0, .int .u64 l1, .int .u64 l2, .int .u64 l3] 24))
  have hl : Lim4 l0 l1 l2 l3 := by have := frW_lim4 (s.extract 32 64); rwa [HL.out.1, HL.out.2.1, HL.out.2.2.1, HL.out.2.2.2] at this
  have hh : Lim4 h0 h1 h2 h3 := by have := frW_lim4 (s.extract 0 32); rwa [HH.out.1, HH.out.2.1, HH.out.2.2.1, HH.out.2.2.2] at this
  have HNl : Hid (num (s.extract 32 64) = val l0 l1 l2 l3) := by show num _ = _; unfold num; rw [HL.out.1, HL.out.2.1, HL.out.2.2.1, HL.out.2.2.2]
  have HNh : Hid (num (s.extract 0 32) = val h0 h1 h2 h3) := by show num _ = _; unfold num; rw [HH.out.1, HH.out.2.1, HH.out.2.2.1, HH.out.2.2.2]
  clear HX HE1 RZ1 RH
  go_wp2_with fail
  clear lh g0 g1 g2 g3
  generalize w2.alloc (.cells #[.int .u64 l0, .int .u64 l1, .int .u64 l2, .int .u64 l3] 24) = W2 at *
  refine (refwide_any _ _ _ _ _ _ _ _ hl hh _).mono ?_
  rintro e w3 ⟨r0, r1, r2, r3, rfl, HR, HX⟩
  have HF : Hid (QMod (num (s.extract 32 64) + B256 * num (s.extract 0 32)) r0 r1 r2 r3) := by rw [HNl.out, HNh.out]; exact HR.out
  obtain ⟨⟨lz, c0, c1, c2, c3⟩, f0, f1, f2, f3⟩ := RZ2.ext HX
  have HE3 : Hid (Ext w w3) := HE2.out.trans HX
  clear HX HR
  go_wp2
  refine bodyPost_ret (v := .tuple #[.agg #[.int .u64 r0, .int .u64 r1, .int .u64 r2, .int .u64 r3], .int .i64 0]) (by simp [results, Tryd.results23, go_sem, c0, c1, c2, c3]) rfl ⟨r0, r1, r2, r3, rfl, HF, ?_⟩
  exact Ext.st HB (Ext.st HB (Ext.st HB (Ext.st HB HE3.out)))
end Go.Proofs.YtdjdociecokilaaDoor

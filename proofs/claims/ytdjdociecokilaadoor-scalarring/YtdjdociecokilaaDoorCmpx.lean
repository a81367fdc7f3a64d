/-
  The call of limbs.Cmp.
-/
import Derived.Test.YtdjdociecokilaaDoorEqx
import Derived.Test.YtdjdociecokilaaDoorAddx
namespace Go.Proofs.YtdjdociecokilaaDoor
open Go.RowKit
attribute [local go_sem] run_eq4
set_option maxHeartbeats 400000 in
theorem cmp_any (a0 a1 a2 a3 b0 b1 b2 b3 : Int) (ha : Lim4 a0 a1 a2 a3) (hb : Lim4 b0 b1 b2 b3) (w : World) :
    Calls Tryd.prog 32 #[.agg #[.int .u64 a0, .int .u64 a1, .int .u64 a2, .int .u64 a3], .agg #[.int .u64 b0, .int .u64 b1, .int .u64 b2, .int .u64 b3]] w fun e w' =>
      ∃ n : Int, e = .returned (.int .i64 n) ∧ Hid (CmpP (val a0 a1 a2 a3) (val b0 b1 b2 b3) n) ∧ Ext w w' := by
  cases hq : eq4 a0 a1 a2 a3 b0 b1 b2 b3
  · have hne : ¬ val a0 a1 a2 a3 = val b0 b1 b2 b3 := fun h => by have := (eq4_iff ha hb).2 h; simp [hq] at this
    have HN : Hid (¬ val a0 a1 a2 a3 = val b0 b1 b2 b3) := hne
    clear hne
    go_enter Tryd.func32, Tryd.ntmps32
    go_wp2_with fail
    refine (sub_any _ _ _ _ _ _ _ _ ha hb _).mono ?_
    rintro e w1 ⟨s0, s1, s2, s3, c, rfl, HS, HX⟩
    have HC : Hid (c = true ↔ val a0 a1 a2 a3 < val b0 b1 b2 b3) := cmp_of_sub ha hb HS.out
    cases c
    · go_wp2
      go_ret
      exact ⟨_, rfl, Or.inr (Or.inr ⟨rfl, by have h := HC.out; have := HN.out; simp at h; omega⟩), (((Ext.refl _).alloc _).alloc _).trans (HX.alloc _)⟩
    · go_wp2
      go_ret
      exact ⟨_, rfl, Or.inl ⟨rfl, HC.out.1 (by trivial)⟩, (((Ext.refl _).alloc _).alloc _).trans (HX.alloc _)⟩
  · have he : val a0 a1 a2 a3 = val b0 b1 b2 b3 := (eq4_iff ha hb).1 hq
    have HN : Hid (val a0 a1 a2 a3 = val b0 b1 b2 b3) := he
    clear he
    go_enter Tryd.func32, Tryd.ntmps32
    go_wp2
    go_ret
    exact ⟨_, rfl, Or.inr (Or.inl ⟨rfl, HN.out⟩), ((Ext.refl _).alloc _).alloc _⟩
end Go.Proofs.YtdjdociecokilaaDoor

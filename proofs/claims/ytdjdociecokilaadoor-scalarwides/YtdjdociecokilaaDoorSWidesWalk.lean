/-
  ScalarWides, walked: it answers true; nothing old is turned.
-/
import Derived.Test.YtdjdociecokilaaDoorSFn
namespace Go.Proofs.YtdjdociecokilaaDoor
open Go.RowKit
attribute [local go_sem] run_eq4
set_option maxHeartbeats 2000000 in
theorem wides_any (s : ByteArray) (hs : s.size ≤ maxLen) (w : World) (hG : Gl w) :
    Calls Tryd.prog 7 #[.string s] w fun e w' => e = .returned (.bool true) ∧ Ext w w' := by
  by_cases hn : s.size = 64
  · have HN : Hid (s.size = 64) := hn
    clear hn
    go_enter Tryd.func7, Tryd.ntmps7
    go_wp2_with fail
    refine (swide_any s HN.out _ hG).mono ?_
    rintro e w1 ⟨r0, r1, r2, r3, rfl, HR, HX⟩
    have R1 := Row.new w1 r0 r1 r2 r3
    have HE1 : Hid (Ext w (w1.alloc (.cells #[.int .u64 r0, .int .u64 r1, .int .u64 r2, .int .u64 r3] 24))) := HX.alloc _
    clear HX
    go_wp2_with fail
    generalize w1.alloc (.cells #[.int .u64 r0, .int .u64 r1, .int .u64 r2, .int .u64 r3] 24) = W1 at *
    generalize w1.heap.size = b1 at *
    refine (refSWide_any s HN.out _).mono ?_
    rintro e w2 ⟨t0, t1, t2, t3, rfl, HT, HX⟩
    obtain ⟨rfl, rfl, rfl, rfl⟩ := HT.out.one HR.out rfl
    have HXa := HX.alloc (.cells #[.int .u64 t0, .int .u64 t1, .int .u64 t2, .int .u64 t3] 24)
    obtain ⟨l1, a0, a1, a2, a3⟩ := R1.ext HXa
    have HE2 : Hid (Ext w (w2.alloc (.cells #[.int .u64 t0, .int .u64 t1, .int .u64 t2, .int .u64 t3] 24))) := HE1.out.trans HXa
    have q1 := eq4_self t0 t1 t2 t3
    clear HX HXa HT HR HE1
    go_wp2_with fail
    refine (awake_any _ (hG.ext HE2.out)).mono ?_
    rintro e w3 ⟨rfl, HX⟩
    have hE : Ext w w3 := HE2.out.trans HX
    clear l1 a0 a1 a2 a3 q1 HX
    go_wp2
    go_ret
    exact ⟨rfl, hE⟩
  · have HN : Hid (s.size ≠ 64) := hn
    have HS : Hid (s.size ≤ maxLen) := hs
    clear hn hs
    go_enter Tryd.func7, Tryd.ntmps7
    go_wp2_with fail
    refine (swide_bad s HS.out HN.out _ hG).mono ?_
    rintro e w1 ⟨rfl, HX⟩
    have R1 := Row.new w1 0 0 0 0
    have HE1 : Hid (Ext w (w1.alloc (.cells #[.int .u64 0, .int .u64 0, .int .u64 0, .int .u64 0] 24))) := HX.alloc _
    clear HX
    go_wp2_with fail
    generalize w1.alloc (.cells #[.int .u64 0, .int .u64 0, .int .u64 0, .int .u64 0] 24) = W1 at *
    generalize w1.heap.size = b1 at *
    refine (refSWide_bad s HS.out HN.out _).mono ?_
    rintro e w2 ⟨rfl, HX⟩
    have HXa := HX.alloc (.cells #[.int .u64 0, .int .u64 0, .int .u64 0, .int .u64 0] 24)
    obtain ⟨l1, a0, a1, a2, a3⟩ := R1.ext HXa
    have HE2 : Hid (Ext w (w2.alloc (.cells #[.int .u64 0, .int .u64 0, .int .u64 0, .int .u64 0] 24))) := HE1.out.trans HXa
    have q1 := eq4_self 0 0 0 0
    clear HX HXa HE1
    go_wp2_with fail
    refine (awake_any _ (hG.ext HE2.out)).mono ?_
    rintro e w3 ⟨rfl, HX⟩
    have hE : Ext w w3 := HE2.out.trans HX
    clear l1 a0 a1 a2 a3 q1 HX
    go_wp2
    go_ret
    exact ⟨rfl, hE⟩
end Go.Proofs.YtdjdociecokilaaDoor

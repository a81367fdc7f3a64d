/-
  ShaSums, called: true for every text; nothing old is turned.
-/
import Derived.Test.YtnejnaaielohjaaDoorShaAwake
import Derived.Test.YtnejnaaielohjaaDoorRefSum
namespace Go.Proofs.YtnejnaaielohjaaDoor
open Go.RowKit
set_option maxHeartbeats 400000 in
theorem shaSums_any (s : ByteArray) (hs : s.size ≤ maxLen) (w : World) (hG : Gl w) :
    Calls Tryd.prog 3 #[.string s] w fun e w' => e = .returned (.bool true) ∧ Ext w w' := by
  unfold maxLen at hs
  by_cases h5 : 5000 < s.size
  · have h6 : (5000 : Int) < (s.size : Int) := by omega
    go_enter Tryd.func3, Tryd.ntmps3
    go_wp2
    go_ret
    exact ⟨rfl, Ext.refl _⟩
  · have h6 : ¬ (5000 : Int) < (s.size : Int) := by omega
    obtain ⟨r, HR⟩ : ∃ r, Hid (shaS s = r) := ⟨_, rfl⟩
    go_enter Tryd.func3, Tryd.ntmps3
    go_wp2_with fail
    refine (ssum_any s (by omega) _ hG).mono ?_
    rintro e w1 ⟨rfl, HX⟩
    rw [HR.out]
    have HX1 : Hid (Ext w w1) := HX
    have hG1 := hG.ext HX
    clear HX
    go_wp2_with fail
    refine (refSum_any s (by omega) _).mono ?_
    rintro e w2 ⟨rfl, HX⟩
    rw [HR.out]
    have HX2 : Hid (Ext w w2) := HX1.out.trans HX
    have hG2 := hG1.ext HX
    clear HX
    go_wp2_with fail
    refine (awake_any _ hG2).mono ?_
    rintro e w3 ⟨rfl, HX⟩
    have HX3 : Hid (Ext w w3) := HX2.out.trans HX
    clear HX
    go_wp2
    go_ret
    exact ⟨rfl, HX3.out⟩
end Go.Proofs.YtnejnaaielohjaaDoor

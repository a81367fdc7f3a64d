/-
  sandglassref07.Sum, called: the sum of a text; nothing old is turned.
-/
import Derived.Test.YtfhglfldmboanaaDoorRefWith
import Derived.Test.YtfhglfldmboanaaDoorRefTable
namespace Go.Proofs.YtfhglfldmboanaaDoor
open Go.RowKit
set_option maxHeartbeats 400000 in
theorem refSum_any (s : ByteArray) (hs : s.size < 4294967296) (w : World) :
    Calls Tryd.prog 14 #[.string s] w fun e w' => e = .returned (.string (shaS s)) ∧ Ext w w' := by
  go_enter Tryd.func14, Tryd.ntmps14
  go_wp2_with fail
  refine (refTable_any _).mono ?_
  rintro e w1 ⟨vh, vk, rfl, Hh, Hk, HX⟩
  have HX1 : Hid (Ext w w1) := HX
  have Hh1 : Hid (SlIs w1 vh (lst .u32 (fun i => HH.getD i 0) 8)) := Hh
  have Hk1 : Hid (SlIs w1 vk (lst .u32 (fun i => KK.getD i 0) 64)) := Hk
  clear HX Hh Hk
  go_wp2_with fail
  refine (with_any s hs vh vk _ Hh1.out Hk1.out).mono ?_
  rintro e w2 ⟨rfl, HX2⟩
  have HX3 : Hid (Ext w w2) := HX1.out.trans HX2
  clear HX2
  go_wp2
  go_ret
  exact ⟨rfl, HX3.out⟩
end Go.Proofs.YtfhglfldmboanaaDoor

/-
  THE FACE of package hmac: Mac, Extract, Expand, called where the package's variables hold what their initialisers lay; nothing old is turned.
-/
import Derived.Test.YtpfeakdpckmcgaaDoorHmC
namespace Go.Proofs.YtpfeakdpckmcgaaDoor
open Go.RowKit
set_option maxHeartbeats 400000 in
theorem hmac_any (key s : ByteArray) (hk : key.size ≤ 2000) (hs : s.size ≤ 2000) (w : World) (hG : SGl w) :
    Calls Tryd.prog 44 #[.string key, .string s] w fun e w' => e = .returned (.string (macS key s)) ∧ Ext w w' := by
  have HM : Hid (∀ W, SGl W → Calls Tryd.prog 49 #[.agg (lst .u8 (fitB key) 64).toArray, .string s] W fun e w' => e = .returned (.string (macS key s)) ∧ Ext W w') := fun W hW => mac_any (fitB key) (fitB_lt key) s (by omega) W hW
  generalize macS key s = O at *
  have HF : Hid (Calls Tryd.prog 50 #[.string key] w fun e w' => e = .returned (.agg (lst .u8 (fitB key) 64).toArray) ∧ Ext w w') := fit_any key (by omega) w hG
  generalize (lst .u8 (fitB key) 64).toArray = AK at *
  have HG : Hid (SGl w) := hG
  clear hG
  go_enter Tryd.func44, Tryd.ntmps44
  go_wp2_with fail
  refine HF.out.mono ?_
  rintro e w1 ⟨rfl, HX⟩
  have HE1 : Hid (Ext w w1) := HX
  clear HX
  go_wp2_with fail
  refine (HM.out _ (HG.out.ext HE1.out)).mono ?_
  rintro e w2 ⟨rfl, HX⟩
  have HE2 : Hid (Ext w w2) := HE1.out.trans HX
  clear HX
  go_wp2
  go_ret
  exact ⟨rfl, HE2.out⟩
end Go.Proofs.YtpfeakdpckmcgaaDoor

/-
  sandglasslaw26.awake, called: true; nothing old is turned. ReleaseNone, called: true.
-/
import Derived.Test.YtdpplmfgbglkhaaGPl
namespace Go.Proofs.Ytdpplmfgbglkhaa
open Go.RowKit
set_option maxHeartbeats 2000000 in
theorem awake_any (w : World) : Calls Try.prog 8 #[] w fun e w' => e = .returned (.bool true) ∧ Ext w w' := by
  go_enter Try.func8, Try.ntmps8
  go_wp2_with fail
  refine (pnew_any 10 5 (Ext.refl w)).mono ?_
  rintro e w1 ⟨a, rfl, H⟩
  have H1 : Hid (PlG w (.pointer (some a)) 10 5 0 (-1) w1) := H
  clear H
  go_wp2_with fail
  refine (ptick_any 19 H1.out).mono ?_
  rintro e w2 ⟨rfl, H⟩
  have H2 : Hid (PlG w (.pointer (some a)) 10 5 19 19 w2) := H
  clear H H1
  go_wp2_with fail
  refine (popen_any 2 H2.out).mono ?_
  rintro e w3 ⟨rfl, H⟩
  have H3 : Hid (PlG w (.pointer (some a)) 10 5 19 19 w3) := H
  clear H H2
  rw [show rO 10 5 19 2 = false by decide]
  go_wp2_with fail
  refine (ptick_any 20 H3.out).mono ?_
  rintro e w4 ⟨rfl, H⟩
  have H4 : Hid (PlG w (.pointer (some a)) 10 5 20 20 w4) := H
  clear H H3
  go_wp2_with fail
  refine (ptick_any 3 H4.out).mono ?_
  rintro e w5 ⟨rfl, H⟩
  have H5 : Hid (PlG w (.pointer (some a)) 10 5 3 20 w5) := H
  clear H H4
  go_wp2_with fail
  refine (popen_any 2 H5.out).mono ?_
  rintro e w6 ⟨rfl, H⟩
  have H6 : Hid (PlG w (.pointer (some a)) 10 5 3 20 w6) := H
  clear H H5
  rw [show rO 10 5 20 2 = true by decide]
  go_wp2_with fail
  refine (pnow_any H6.out).mono ?_
  rintro e w7 ⟨rfl, H⟩
  have H7 : Hid (PlG w (.pointer (some a)) 10 5 3 20 w7) := H
  clear H H6
  go_wp2_with fail
  refine (pcrash_any H7.out).mono ?_
  rintro e w8 ⟨rfl, H⟩
  have H8 : Hid (PlG w (.pointer (some a)) 10 5 0 20 w8) := H
  clear H H7
  go_wp2_with fail
  refine (popen_any 2 H8.out).mono ?_
  rintro e w9 ⟨rfl, H⟩
  have H9 : Hid (PlG w (.pointer (some a)) 10 5 0 20 w9) := H
  clear H H8
  rw [show rO 10 5 20 2 = true by decide]
  go_wp2_with fail
  refine (popen_any 3 H9.out).mono ?_
  rintro e w10 ⟨rfl, H⟩
  have H10 : Hid (PlG w (.pointer (some a)) 10 5 0 20 w10) := H
  clear H H9
  rw [show rO 10 5 20 3 = false by decide]
  go_wp2_with fail
  refine (pnow_any H10.out).mono ?_
  rintro e w11 ⟨rfl, H⟩
  have H11 : Hid (PlG w (.pointer (some a)) 10 5 0 20 w11) := H
  clear H H10
  go_wp2_with fail
  refine (ptime_any 2 H11.out).mono ?_
  rintro e w12 ⟨rfl, H⟩
  have H12 : Hid (PlG w (.pointer (some a)) 10 5 0 20 w12) := H
  clear H H11
  rw [show rT 10 5 2 = 20 by decide]
  go_wp2_with fail
  refine (ptime_any 64 H12.out).mono ?_
  rintro e w13 ⟨rfl, H⟩
  have H13 : Hid (PlG w (.pointer (some a)) 10 5 0 20 w13) := H
  clear H H12
  rw [show rT 10 5 64 = -1 by decide]
  go_wp2
  go_ret
  exact ⟨rfl, H13.out.old⟩
set_option maxHeartbeats 2000000 in
theorem releaseNone_any (n : Int) (w : World) : Calls Try.prog 7 #[.int .i64 n] w fun e w' => e = .returned (.bool true) ∧ Ext w w' := by
  go_enter Try.func7, Try.ntmps7
  go_wp2_with fail
  refine (gtick_nil n _).mono ?_
  rintro e w1 ⟨rfl, HX⟩
  have HE1 : Hid (Ext w w1) := HX
  clear HX
  go_wp2_with fail
  refine (gcrash_nil _).mono ?_
  rintro e w2 ⟨rfl, HX⟩
  have HE2 : Hid (Ext w w2) := HE1.out.trans HX
  clear HX HE1
  go_wp2_with fail
  refine (gtime_nil n _).mono ?_
  rintro e w3 ⟨rfl, HX⟩
  have HE3 : Hid (Ext w w3) := HE2.out.trans HX
  clear HX HE2
  go_wp2_with fail
  refine (gopen_nil n _).mono ?_
  rintro e w4 ⟨rfl, HX⟩
  have HE4 : Hid (Ext w w4) := HE3.out.trans HX
  clear HX HE3
  go_wp2_with fail
  refine (gnow_nil _).mono ?_
  rintro e w5 ⟨rfl, HX⟩
  have HE5 : Hid (Ext w w5) := HE4.out.trans HX
  clear HX HE4
  go_wp2_with fail
  refine (awake_any _).mono ?_
  rintro e w6 ⟨rfl, HX⟩
  have HE6 : Hid (Ext w w6) := HE5.out.trans HX
  clear HX HE5
  go_wp2
  go_ret
  exact ⟨rfl, HE6.out⟩
end Go.Proofs.Ytdpplmfgbglkhaa

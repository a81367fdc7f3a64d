/-
  The law's own examples (sandglasslaw10.awake), called: true; nothing old is turned.
-/
import Derived.Test.YtgpcnmdaplkpoaaPFace
import Derived.Room.AppendFits
namespace Go.Proofs.Ytgpcnmdaplkpoaa
open Go.RowKit
theorem Try.info5a : (Try.prog.info? 5).map (fun i => (i.zero, i.size, i.bytes)) = some (some (.int .u8 0), 1, 1) := by kernel_rfl
/-- So many bytes 0. -/
def zS (k : Nat) : ByteArray := mkS (fun _ => 0) k
def exK : ByteArray := ⟨#[133, 214, 190, 120, 87, 85, 109, 51, 127, 68, 82, 254, 66, 213, 6, 168, 1, 3, 128, 138, 251, 13, 178, 253, 74, 191, 246, 175, 65, 73, 245, 27]⟩
def exT : ByteArray := ⟨#[67, 114, 121, 112, 116, 111, 103, 114, 97, 112, 104, 105, 99, 32, 70, 111, 114, 117, 109, 32, 82, 101, 115, 101, 97, 114, 99, 104, 32, 71, 114, 111, 117, 112]⟩
theorem mac_zero : macS (zS 32) ⟨#[97, 98, 99]⟩ = zS 16 := by
  apply ByteArray.ext
  decide +kernel
theorem mac_ex : (macS exK exT).data.toList.take 4 = [168, 6, 29, 193] := by decide +kernel
theorem take_of {S : ByteArray} {l : List UInt8} (h : S.data.toList.take 4 = l) : (S.extract 0 4).toList = l := by
  rw [ByteArray.toList_eq, ByteArray.data_extract]
  simpa using h
theorem macS_size (key s : ByteArray) : (macS key s).size = 16 := mkS_size _ _
set_option maxHeartbeats 1000000 in
theorem awake_any (w : World) : Calls Try.prog 7 #[] w fun e w' => e = .returned (.bool true) ∧ Ext w w' := by
  obtain ⟨i0, hi, hz0, hz1, hz2⟩ := info_parts Try.info5a
  obtain ⟨Z1, HZ1⟩ : ∃ Z, Hid (zS 32 = Z) := ⟨_, rfl⟩
  obtain ⟨Z2, HZ2⟩ : ∃ Z, Hid (zS 16 = Z) := ⟨_, rfl⟩
  obtain ⟨SA, a1, a2, HA⟩ : ∃ SA : ByteArray, SA.size = 16 ∧ (SA.extract 0 4).toList = [168, 6, 29, 193] ∧ Hid (macS exK exT = SA) := ⟨_, macS_size _ _, take_of mac_ex, rfl⟩
  have C1 : Hid (∀ W, Calls Try.prog 8 #[.string Z1, .string ⟨#[97, 98, 99]⟩] W fun e w' => e = .returned (.tuple #[.string Z2, .int .i64 0]) ∧ Ext W w') := fun W => by
    have := pmac_any (zS 32) ⟨#[97, 98, 99]⟩ (mkS_size _ _) (by decide) W
    rw [mac_zero, HZ1.out, HZ2.out] at this
    exact this
  have C2 : Hid (∀ W, Calls Try.prog 8 #[.string ⟨#[133, 214, 190, 120, 87, 85, 109, 51, 127, 68, 82, 254, 66, 213, 6, 168, 1, 3, 128, 138, 251, 13, 178, 253, 74, 191, 246, 175, 65, 73, 245, 27]⟩, .string ⟨#[67, 114, 121, 112, 116, 111, 103, 114, 97, 112, 104, 105, 99, 32, 70, 111, 114, 117, 109, 32, 82, 101, 115, 101, 97, 114, 99, 104, 32, 71, 114, 111, 117, 112]⟩] W fun e w' => e = .returned (.tuple #[.string SA, .int .i64 0]) ∧ Ext W w') := fun W => by
    have := pmac_any exK exT (by decide) (by decide) W
    rw [HA.out] at this
    exact this
  have C3 : Hid (∀ W, Calls Try.prog 8 #[.string ⟨#[]⟩, .string ⟨#[]⟩] W fun e w' => e = .returned (.tuple #[.string ⟨#[]⟩, .int .i64 2]) ∧ Ext W w') := fun W => pmac_bad _ _ (by decide) W
  clear HA
  go_enter Try.func7, Try.ntmps7
  go_wp2_with (first | (at_make; refine wpList_make_full _ rfl _ _ 35 rfl w.heap.size 5 i0 (.int .u8 0) 1 Try.underlying35 hi hz0 hz1 _ _ _ _ 32 rfl rfl ?m1a ?m2a ?m3a ?m4a ?m5a ?_))
  any_goals (first | rfl | decide | exact Nat.le_refl _ | (rw [hz2]; decide))
  intro w1 hown hgrow
  have HT0 : TabN w1 w.heap.size .u8 32 (fun _ => 0) := own_tab (by rw [made_lst'] at hown; exact hown)
  have HE1 : Hid (Ext w w1) := ext_grown (Ext.refl _) hgrow (by simp)
  have hcs := run_lst_string Try.prog 5 35 9 Try.underlying35 Try.underlying5 Try.underlying9 w1 (fun _ => 0) 32 _ (HT0.slice (c := 32) (by decide)) (by decide)
  rw [show mkS (fun _ => 0) 32 = Z1 from HZ1.out] at hcs
  clear hown hgrow HT0
  go_wp2_with fail
  with_reducible refine (C1.out _).mono ?_
  rintro e w2 ⟨rfl, HX⟩
  have HE2 : Hid (Ext w w2) := HE1.out.trans HX
  clear HX HE1 hcs
  go_wp2_with fail
  with_reducible refine (C2.out _).mono ?_
  rintro e w3 ⟨rfl, HX⟩
  have HE3 : Hid (Ext w w3) := HE2.out.trans HX
  clear HX HE2
  go_wp2_with fail
  with_reducible refine (C3.out _).mono ?_
  rintro e w4 ⟨rfl, HX⟩
  have HE4 : Hid (Ext w w4) := HE3.out.trans HX
  clear HX HE3
  go_wp2_with (first | (at_make; refine wpList_make_full _ rfl _ _ 35 rfl w4.heap.size 5 i0 (.int .u8 0) 1 Try.underlying35 hi hz0 hz1 _ _ _ _ 16 rfl rfl ?m1b ?m2b ?m3b ?m4b ?m5b ?_))
  any_goals (first | rfl | decide | exact Nat.le_refl _ | (rw [hz2]; decide))
  intro w5 hown hgrow
  have HT0 : TabN w5 w4.heap.size .u8 16 (fun _ => 0) := own_tab (by rw [made_lst'] at hown; exact hown)
  have HE5 : Hid (Ext w w5) := HE4.out.trans (ext_grown (Ext.refl _) hgrow (by simp))
  have hcs := run_lst_string Try.prog 5 35 9 Try.underlying35 Try.underlying5 Try.underlying9 w5 (fun _ => 0) 16 _ (HT0.slice (c := 16) (by decide)) (by decide)
  rw [show mkS (fun _ => 0) 16 = Z2 from HZ2.out] at hcs
  clear hown hgrow HT0 HE4
  go_wp2
  go_ret
  exact ⟨rfl, HE5.out⟩
end Go.Proofs.Ytgpcnmdaplkpoaa

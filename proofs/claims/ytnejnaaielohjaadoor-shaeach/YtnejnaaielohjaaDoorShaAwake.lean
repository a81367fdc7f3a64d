/-
  The law's own examples (sandglasslaw07.awake), called: true; nothing old is turned.
-/
import Derived.Test.YtnejnaaielohjaaDoorShaFace
namespace Go.Proofs.YtnejnaaielohjaaDoor
open Go.RowKit
set_option maxRecDepth 100000 in
theorem abcS : shaS ⟨#[97, 98, 99]⟩ = ⟨#[0xba, 0x78, 0x16, 0xbf, 0x8f, 0x01, 0xcf, 0xea, 0x41, 0x41, 0x40, 0xde, 0x5d, 0xae, 0x22, 0x23, 0xb0, 0x03, 0x61, 0xa3, 0x96, 0x17, 0x7a, 0x9c, 0xb4, 0x10, 0xff, 0x61, 0xf2, 0x00, 0x15, 0xad]⟩ := by decide +kernel
set_option maxRecDepth 100000 in
theorem nilS : shaS ⟨#[]⟩ = ⟨#[0xe3, 0xb0, 0xc4, 0x42, 0x98, 0xfc, 0x1c, 0x14, 0x9a, 0xfb, 0xf4, 0xc8, 0x99, 0x6f, 0xb9, 0x24, 0x27, 0xae, 0x41, 0xe4, 0x64, 0x9b, 0x93, 0x4c, 0xa4, 0x95, 0x99, 0x1b, 0x78, 0x52, 0xb8, 0x55]⟩ := by decide +kernel
set_option maxHeartbeats 1000000 in
theorem awake_any (w : World) (hG : Gl w) : Calls Tryd.prog 9 #[] w fun e w' => e = .returned (.bool true) ∧ Ext w w' := by
  obtain ⟨SA, a1, a2, a3, HA⟩ : ∃ SA : ByteArray, SA.size = 32 ∧ (SA.extract 0 4).toList = [186, 120, 22, 191] ∧ (SA.extract 28 32).toList = [242, 0, 21, 173] ∧ Hid (shaS ⟨#[97, 98, 99]⟩ = SA) := ⟨_, by rw [abcS]; rfl, by rw [abcS, ByteArray.toList_eq]; rfl, by rw [abcS, ByteArray.toList_eq]; rfl, rfl⟩
  obtain ⟨SB, b1, b2, HB⟩ : ∃ SB : ByteArray, SB.size = 32 ∧ (SB.extract 0 4).toList = [227, 176, 196, 66] ∧ Hid (shaS ⟨#[]⟩ = SB) := ⟨_, by rw [nilS]; rfl, by rw [nilS, ByteArray.toList_eq]; rfl, rfl⟩
  go_enter Tryd.func9, Tryd.ntmps9
  go_wp2_with fail
  refine (ssum_any ⟨#[97, 98, 99]⟩ (by decide) _ hG).mono ?_
  rintro e w1 ⟨rfl, HX⟩
  rw [HA.out]
  have HX1 : Hid (Ext w w1) := HX
  have hG1 := hG.ext HX
  clear HX
  go_wp2_with fail
  refine (ssum_any ⟨#[]⟩ (by decide) _ hG1).mono ?_
  rintro e w2 ⟨rfl, HX⟩
  rw [HB.out]
  have HX2 : Hid (Ext w w2) := HX1.out.trans HX
  have hG2 := hG1.ext HX
  clear HX
  go_wp2_with fail
  refine (sblocks_any 55 (by decide) (by decide) _ hG2).mono ?_
  rintro e w3 ⟨rfl, HX⟩
  rw [show blkI 55 = 1 from by decide]
  have HX3 : Hid (Ext w w3) := HX2.out.trans HX
  have hG3 := hG2.ext HX
  clear HX
  go_wp2_with fail
  refine (sblocks_any 56 (by decide) (by decide) _ hG3).mono ?_
  rintro e w4 ⟨rfl, HX⟩
  rw [show blkI 56 = 2 from by decide]
  have HX4 : Hid (Ext w w4) := HX3.out.trans HX
  clear HX
  go_wp2
  go_ret
  exact ⟨rfl, HX4.out⟩
end Go.Proofs.YtnejnaaielohjaaDoor

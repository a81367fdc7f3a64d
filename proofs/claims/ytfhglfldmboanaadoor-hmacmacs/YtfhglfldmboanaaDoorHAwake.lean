/-
  The law's own examples (sandglasslaw08.awake), called: true; nothing old is turned.
-/
import Derived.Test.YtfhglfldmboanaaDoorHFace
namespace Go.Proofs.YtfhglfldmboanaaDoor
open Go.RowKit
/-- 'Jefe', 'what do ya want for nothing?'. -/
def jefe : ByteArray := ⟨#[74, 101, 102, 101]⟩
def want : ByteArray := ⟨#[119, 104, 97, 116, 32, 100, 111, 32, 121, 97, 32, 119, 97, 110, 116, 32, 102, 111, 114, 32, 110, 111, 116, 104, 105, 110, 103, 63]⟩
set_option maxRecDepth 100000 in
theorem jefeS : ((macS jefe want).data.toList.take 4) = [91, 220, 193, 70] := by decide +kernel
/-- A key of nothing is one of a byte 0. -/
theorem zeroKey : padS ⟨#[]⟩ = padS ⟨#[0]⟩ := by
  funext x
  unfold padS
  congr 1
  funext i
  congr 1
  have e1 : keyS ⟨#[]⟩ = ⟨#[]⟩ := rfl
  have e2 : keyS ⟨#[0]⟩ = ⟨#[0]⟩ := rfl
  rw [e1, e2]
  cases i with
  | zero => rfl
  | succ i => rfl
theorem zeroMac (s : ByteArray) : macS ⟨#[]⟩ s = macS ⟨#[0]⟩ s := by unfold macS; rw [zeroKey]
theorem take_of {S : ByteArray} {l : List UInt8} (h : S.data.toList.take 4 = l) : (S.extract 0 4).toList = l := by
  rw [ByteArray.toList_eq, ByteArray.data_extract]
  simpa using h
set_option maxHeartbeats 1000000 in
theorem awake_any (w : World) (hG : Gl w) : Calls Tryd.prog 7 #[] w fun e w' => e = .returned (.bool true) ∧ Ext w w' := by
  obtain ⟨SA, a1, a2, HA⟩ : ∃ SA : ByteArray, SA.size = 32 ∧ (SA.extract 0 4).toList = [91, 220, 193, 70] ∧ Hid (macS ⟨#[74, 101, 102, 101]⟩ ⟨#[119, 104, 97, 116, 32, 100, 111, 32, 121, 97, 32, 119, 97, 110, 116, 32, 102, 111, 114, 32, 110, 111, 116, 104, 105, 110, 103, 63]⟩ = SA) := ⟨_, macS_size _ _, take_of jefeS, rfl⟩
  obtain ⟨SB, b1, HB⟩ : ∃ SB : ByteArray, SB.size = 40 ∧ Hid (expS ⟨#[107]⟩ ⟨#[]⟩ 40 = SB) := ⟨_, expS_size _ _ _, rfl⟩
  obtain ⟨SC, HC⟩ : ∃ SC, Hid (macS ⟨#[]⟩ ⟨#[120]⟩ = SC) := ⟨_, rfl⟩
  have HD : Hid (macS ⟨#[0]⟩ ⟨#[120]⟩ = SC) := by show _ = _; rw [← zeroMac, HC.out]
  go_enter Tryd.func7, Tryd.ntmps7
  go_wp2_with fail
  refine (hmac_any ⟨#[74, 101, 102, 101]⟩ _ (by decide) (by decide) _ hG).mono ?_
  rintro e w1 ⟨rfl, HX⟩
  rw [HA.out]
  have HX1 : Hid (Ext w w1) := HX
  have hG1 := hG.ext HX
  clear HX
  go_wp2_with fail
  refine (hexpand_any ⟨#[107]⟩ ⟨#[]⟩ (by decide) (by decide) 40 (by decide) _ hG1).mono ?_
  rintro e w2 ⟨rfl, HX⟩
  rw [HB.out]
  have HX2 : Hid (Ext w w2) := HX1.out.trans HX
  have hG2 := hG1.ext HX
  clear HX
  go_wp2_with fail
  refine (hexpand_bad ⟨#[107]⟩ ⟨#[]⟩ 8161 (by decide) (by decide) (by decide) _ hG2).mono ?_
  rintro e w3 ⟨rfl, HX⟩
  have HX3 : Hid (Ext w w3) := HX2.out.trans HX
  have hG3 := hG2.ext HX
  clear HX
  go_wp2_with fail
  refine (hextract_any ⟨#[]⟩ ⟨#[120]⟩ (by decide) (by decide) _ hG3).mono ?_
  rintro e w4 ⟨rfl, HX⟩
  rw [HC.out]
  have HX4 : Hid (Ext w w4) := HX3.out.trans HX
  have hG4 := hG3.ext HX
  clear HX
  go_wp2_with fail
  refine (hmac_any ⟨#[0]⟩ ⟨#[120]⟩ (by decide) (by decide) _ hG4).mono ?_
  rintro e w5 ⟨rfl, HX⟩
  rw [HD.out]
  have HX5 : Hid (Ext w w5) := HX4.out.trans HX
  clear HX
  go_wp2
  go_ret
  exact ⟨rfl, HX5.out⟩
end Go.Proofs.YtfhglfldmboanaaDoor

/-
  The law's own examples (sandglasslaw09.awake), called: true; nothing old is turned.
-/
import Derived.Test.YtdafckjcggaflaaDoorCMath
namespace Go.Proofs.YtdafckjcggaflaaDoor
open Go.RowKit
theorem take_of {S : ByteArray} {l : List UInt8} (h : S.data.toList.take 4 = l) : (S.extract 0 4).toList = l := by
  rw [ByteArray.toList_eq, ByteArray.data_extract]
  simpa using h
theorem blkR_ok {key nonce : ByteArray} {n : Nat} (h1 : key.size = 32) (h2 : nonce.size = 12) : blkR key nonce n = (blkS key nonce n, 0) := if_pos ⟨h1, h2⟩
theorem xorR_ok {key nonce : ByteArray} {n : Nat} {s : ByteArray} (h1 : key.size = 32) (h2 : nonce.size = 12) : xorR key nonce n s = (xorS key nonce n s, 0) := if_pos ⟨h1, h2⟩
set_option maxHeartbeats 1000000 in
theorem awake_any (w : World) (hG : Gl w) : Calls Tryd.prog 9 #[] w fun e w' => e = .returned (.bool true) ∧ Ext w w' := by
  obtain ⟨Z1, HZ1⟩ : ∃ Z, Hid (zS 32 = Z) := ⟨_, rfl⟩
  obtain ⟨Z2, HZ2⟩ : ∃ Z, Hid (zS 12 = Z) := ⟨_, rfl⟩
  obtain ⟨Z3, HZ3⟩ : ∃ Z, Hid (zS 65 = Z) := ⟨_, rfl⟩
  obtain ⟨SA, a1, a2, HA⟩ : ∃ SA : ByteArray, SA.size = 64 ∧ (SA.extract 0 4).toList = [118, 184, 224, 173] ∧ Hid (blkS (zS 32) (zS 12) 0 = SA) := ⟨_, blkS_size _ _ _, take_of zeroBlk, rfl⟩
  obtain ⟨SB, b1, b2, HB⟩ : ∃ SB : ByteArray, SB.size = 65 ∧ SB.extract 0 64 = SA ∧ Hid (xorS (zS 32) (zS 12) 0 (zS 65) = SB) := ⟨_, by rw [xorS_size, zS_size], by rw [zero_first, HA.out], rfl⟩
  have C1 : Hid (∀ W, Calls Tryd.prog 16 #[.int .i64 32] W fun e w' => e = .returned (.string Z1) ∧ Ext W w') := fun W => by rw [← HZ1.out]; exact zeros_any 32 (by decide) W
  have C2 : Hid (∀ W, Calls Tryd.prog 16 #[.int .i64 12] W fun e w' => e = .returned (.string Z2) ∧ Ext W w') := fun W => by rw [← HZ2.out]; exact zeros_any 12 (by decide) W
  have C3 : Hid (∀ W, Calls Tryd.prog 16 #[.int .i64 65] W fun e w' => e = .returned (.string Z3) ∧ Ext W w') := fun W => by rw [← HZ3.out]; exact zeros_any 65 (by decide) W
  have C4 : Hid (∀ W, Gl W → Calls Tryd.prog 7 #[.string Z1, .string Z2, .int .u32 0] W fun e w' => e = .returned (.tuple #[.string SA, .int .i64 0]) ∧ Ext W w') := fun W g => by
    have := cblock_any (zS 32) (zS 12) 0 (by decide) W g
    rw [blkR_ok (zS_size _) (zS_size _), HA.out, HZ1.out, HZ2.out] at this
    exact this
  have C5 : Hid (∀ W, Gl W → Calls Tryd.prog 10 #[.string Z1, .string Z2, .int .u32 0, .string Z3] W fun e w' => e = .returned (.tuple #[.string SB, .int .i64 0]) ∧ Ext W w') := fun W g => by
    have := cxor_any (zS 32) (zS 12) 0 (zS 65) (by decide) (by rw [zS_size]; decide) W g
    rw [xorR_ok (zS_size _) (zS_size _), HB.out, HZ1.out, HZ2.out, HZ3.out] at this
    exact this
  have C6 : Hid (∀ W, Gl W → Calls Tryd.prog 7 #[.string ⟨#[]⟩, .string ⟨#[]⟩, .int .u32 0] W fun e w' => e = .returned (.tuple #[.string ⟨#[]⟩, .int .i64 2]) ∧ Ext W w') := fun W g => by
    have := cblock_any ⟨#[]⟩ ⟨#[]⟩ 0 (by decide) W g
    rw [show blkR ⟨#[]⟩ ⟨#[]⟩ 0 = (⟨#[]⟩, 2) from if_neg (by decide)] at this
    exact this
  clear HZ1 HZ2 HZ3 HA HB
  go_enter Tryd.func9, Tryd.ntmps9
  go_wp2_with fail
  with_reducible refine (C1.out _).mono ?_
  rintro e w1 ⟨rfl, HX⟩
  have HX1 : Hid (Ext w w1) := HX
  have hG := hG.ext HX
  clear HX
  go_wp2_with fail
  with_reducible refine (C2.out _).mono ?_
  rintro e w2 ⟨rfl, HX⟩
  have HX2 : Hid (Ext w w2) := HX1.out.trans HX
  have hG := hG.ext HX
  clear HX
  go_wp2_with fail
  with_reducible refine (C4.out _ hG).mono ?_
  rintro e w3 ⟨rfl, HX⟩
  have HX3 : Hid (Ext w w3) := HX2.out.trans HX
  have hG := hG.ext HX
  clear HX
  go_wp2_with fail
  with_reducible refine (C1.out _).mono ?_
  rintro e w4 ⟨rfl, HX⟩
  have HX4 : Hid (Ext w w4) := HX3.out.trans HX
  have hG := hG.ext HX
  clear HX
  go_wp2_with fail
  with_reducible refine (C2.out _).mono ?_
  rintro e w5 ⟨rfl, HX⟩
  have HX5 : Hid (Ext w w5) := HX4.out.trans HX
  have hG := hG.ext HX
  clear HX
  go_wp2_with fail
  with_reducible refine (C3.out _).mono ?_
  rintro e w6 ⟨rfl, HX⟩
  have HX6 : Hid (Ext w w6) := HX5.out.trans HX
  have hG := hG.ext HX
  clear HX
  go_wp2_with fail
  with_reducible refine (C5.out _ hG).mono ?_
  rintro e w7 ⟨rfl, HX⟩
  have HX7 : Hid (Ext w w7) := HX6.out.trans HX
  have hG := hG.ext HX
  clear HX
  go_wp2_with fail
  with_reducible refine (C6.out _ hG).mono ?_
  rintro e w8 ⟨rfl, HX⟩
  have HX8 : Hid (Ext w w8) := HX7.out.trans HX
  have hG := hG.ext HX
  clear HX
  go_wp2
  go_ret
  exact ⟨rfl, HX8.out⟩
end Go.Proofs.YtdafckjcggaflaaDoor

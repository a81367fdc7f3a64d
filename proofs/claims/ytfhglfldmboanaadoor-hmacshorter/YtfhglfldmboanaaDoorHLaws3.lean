/-
  The laws of layer 8, called (the last): true for every input; nothing old is turned.
-/
import Derived.Test.YtfhglfldmboanaaDoorHAwake
namespace Go.Proofs.YtfhglfldmboanaaDoor
open Go.RowKit
set_option maxHeartbeats 1000000 in
theorem hmacShorter_any (key info : ByteArray) (hk : key.size ≤ maxLen) (hi : info.size ≤ maxLen) (a b : Int) (_a1 : -9223372036854775808 ≤ a) (_a2 : a ≤ 9223372036854775807) (_b1 : -9223372036854775808 ≤ b) (_b2 : b ≤ 9223372036854775807) (w : World) (hG : Gl w) :
    Calls Tryd.prog 6 #[.string key, .string info, .agg #[.int .i64 a, .int .i64 b]] w fun e w' => e = .returned (.bool true) ∧ Ext w w' := by
  unfold maxLen at hk hi
  have HW : Hid (Ext w (w.alloc (.cells #[.int .i64 a, .int .i64 b] 34))) := (Ext.refl _).alloc _
  by_cases h5 : 2000 < key.size
  · have h6 : (2000 : Int) < (key.size : Int) := by omega
    go_enter Tryd.func6, Tryd.ntmps6
    go_wp2_with fail
    refine (awake_any _ (hG.ext HW.out)).mono ?_
    rintro e w2 ⟨rfl, HX⟩
    have HX2 : Hid (Ext w w2) := HW.out.trans HX
    clear HX
    go_wp2
    go_ret
    exact ⟨rfl, HX2.out⟩
  · have h6 : ¬ (2000 : Int) < (key.size : Int) := by omega
    by_cases g5 : 2000 < info.size
    · have g6 : (2000 : Int) < (info.size : Int) := by omega
      go_enter Tryd.func6, Tryd.ntmps6
      go_wp2_with fail
      refine (awake_any _ (hG.ext HW.out)).mono ?_
      rintro e w2 ⟨rfl, HX⟩
      have HX2 : Hid (Ext w w2) := HW.out.trans HX
      clear HX
      go_wp2
      go_ret
      exact ⟨rfl, HX2.out⟩
    · have g6 : ¬ (2000 : Int) < (info.size : Int) := by omega
      by_cases ha : a < 0
      · skip
        go_enter Tryd.func6, Tryd.ntmps6
        go_wp2_with fail
        refine (awake_any _ (hG.ext HW.out)).mono ?_
        rintro e w2 ⟨rfl, HX⟩
        have HX2 : Hid (Ext w w2) := HW.out.trans HX
        clear HX
        go_wp2
        go_ret
        exact ⟨rfl, HX2.out⟩
      · by_cases hb : b < a
        · skip
          go_enter Tryd.func6, Tryd.ntmps6
          go_wp2_with fail
          refine (awake_any _ (hG.ext HW.out)).mono ?_
          rintro e w2 ⟨rfl, HX⟩
          have HX2 : Hid (Ext w w2) := HW.out.trans HX
          clear HX
          go_wp2
          go_ret
          exact ⟨rfl, HX2.out⟩
        · by_cases hc : 1000 < b
          · skip
            go_enter Tryd.func6, Tryd.ntmps6
            go_wp2_with fail
            refine (awake_any _ (hG.ext HW.out)).mono ?_
            rintro e w2 ⟨rfl, HX⟩
            have HX2 : Hid (Ext w w2) := HW.out.trans HX
            clear HX
            go_wp2
            go_ret
            exact ⟨rfl, HX2.out⟩
          · obtain ⟨A, rfl⟩ : ∃ A : Nat, a = (A : Int) := ⟨a.toNat, by omega⟩
            obtain ⟨B, rfl⟩ : ∃ B : Nat, b = (B : Int) := ⟨b.toNat, by omega⟩
            have hAB : A ≤ B := by omega
            obtain ⟨SA, a3, HSA⟩ : ∃ SA : ByteArray, SA.size = A ∧ Hid (expS key info A = SA) := ⟨_, expS_size _ _ _, rfl⟩
            obtain ⟨SB, b3, HSB⟩ : ∃ SB : ByteArray, SB.size = B ∧ Hid (expS key info B = SB) := ⟨_, expS_size _ _ _, rfl⟩
            have hpre : SB.extract 0 A = SA := by rw [← HSA.out, ← HSB.out]; exact expS_pre key info hAB
            have C1 : Hid (∀ W, Ext w W → Calls Tryd.prog 12 #[.string key, .string info, .int .i64 (A : Int)] W fun e w' => e = .returned (.tuple #[.string SA, .int .i64 0]) ∧ Ext W w') := fun W h => by
              have := hexpand_any key info (by omega) (by omega) A (by omega) W (hG.ext h)
              rw [HSA.out] at this; exact this
            have C2 : Hid (∀ W, Ext w W → Calls Tryd.prog 12 #[.string key, .string info, .int .i64 (B : Int)] W fun e w' => e = .returned (.tuple #[.string SB, .int .i64 0]) ∧ Ext W w') := fun W h => by
              have := hexpand_any key info (by omega) (by omega) B (by omega) W (hG.ext h)
              rw [HSB.out] at this; exact this
            go_enter Tryd.func6, Tryd.ntmps6
            go_wp2_with fail
            refine (C1.out _ HW.out).mono ?_
            rintro e w1 ⟨rfl, HX⟩
            have HX1 : Hid (Ext w w1) := HW.out.trans HX
            have r0 := later HX (show (w.alloc (.cells #[.int .i64 (A : Int), .int .i64 (B : Int)] 34)).cell? ⟨w.heap.size, 0, none⟩ = some (.int .i64 (A : Int)) by rw [World.cell?_alloc_at _ _ _ _ rfl]; rfl)
            have r1 := later HX (show (w.alloc (.cells #[.int .i64 (A : Int), .int .i64 (B : Int)] 34)).cell? ⟨w.heap.size, 1, none⟩ = some (.int .i64 (B : Int)) by rw [World.cell?_alloc_at _ _ _ _ rfl]; rfl)
            clear HX
            go_wp2_with fail
            refine (C2.out _ HX1.out).mono ?_
            rintro e w2 ⟨rfl, HX⟩
            have HX2 : Hid (Ext w w2) := HX1.out.trans HX
            have s0 := later HX r0
            have s1 := later HX r1
            have hG2 := hG.ext HX2.out
            clear HX r0 r1
            go_wp2_with fail
            refine (awake_any _ hG2).mono ?_
            rintro e w3 ⟨rfl, HX⟩
            have HX3 : Hid (Ext w w3) := HX2.out.trans HX
            clear HX
            go_wp2
            go_ret
            exact ⟨rfl, HX3.out⟩
end Go.Proofs.YtfhglfldmboanaaDoor

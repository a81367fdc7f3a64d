/-
  The laws of layer 8, called: true for every input; nothing old is turned.
-/
import Derived.Test.YtfhglfldmboanaaDoorHAwake
namespace Go.Proofs.YtfhglfldmboanaaDoor
open Go.RowKit
set_option maxHeartbeats 1000000 in
theorem hmacMacs_any (key s : ByteArray) (hk : key.size ≤ maxLen) (hs : s.size ≤ maxLen) (w : World) (hG : Gl w) :
    Calls Tryd.prog 3 #[.string key, .string s] w fun e w' => e = .returned (.bool true) ∧ Ext w w' := by
  unfold maxLen at hk hs
  by_cases h5 : 2000 < key.size
  · have h6 : (2000 : Int) < (key.size : Int) := by omega
    go_enter Tryd.func3, Tryd.ntmps3
    go_wp2_with fail
    refine (awake_any _ hG).mono ?_
    rintro e w2 ⟨rfl, HX⟩
    have HX2 : Hid (Ext w w2) := HX
    clear HX
    go_wp2
    go_ret
    exact ⟨rfl, HX2.out⟩
  · have h6 : ¬ (2000 : Int) < (key.size : Int) := by omega
    by_cases g5 : 2000 < s.size
    · have g6 : (2000 : Int) < (s.size : Int) := by omega
      go_enter Tryd.func3, Tryd.ntmps3
      go_wp2_with fail
      refine (awake_any _ hG).mono ?_
      rintro e w2 ⟨rfl, HX⟩
      have HX2 : Hid (Ext w w2) := HX
      clear HX
      go_wp2
      go_ret
      exact ⟨rfl, HX2.out⟩
    · have g6 : ¬ (2000 : Int) < (s.size : Int) := by omega
      obtain ⟨r, HR⟩ : ∃ r, Hid (macS key s = r) := ⟨_, rfl⟩
      go_enter Tryd.func3, Tryd.ntmps3
      go_wp2_with fail
      refine (hmac_any key s (by omega) (by omega) _ hG).mono ?_
      rintro e w1 ⟨rfl, HX⟩
      rw [HR.out]
      have HX1 : Hid (Ext w w1) := HX
      have hG1 := hG.ext HX
      clear HX
      go_wp2_with fail
      refine (rmac_any key s (by omega) (by omega) _).mono ?_
      rintro e w2 ⟨rfl, HX⟩
      rw [HR.out]
      have HX2 : Hid (Ext w w2) := HX1.out.trans HX
      have hG2 := hG1.ext HX
      clear HX
      go_wp2_with fail
      refine (hextract_any key s (by omega) (by omega) _ hG2).mono ?_
      rintro e w3 ⟨rfl, HX⟩
      rw [HR.out]
      have HX3 : Hid (Ext w w3) := HX2.out.trans HX
      have hG3 := hG2.ext HX
      clear HX
      go_wp2_with fail
      refine (rextract_any key s (by omega) (by omega) _).mono ?_
      rintro e w4 ⟨rfl, HX⟩
      rw [HR.out]
      have HX4 : Hid (Ext w w4) := HX3.out.trans HX
      have hG4 := hG3.ext HX
      clear HX
      go_wp2_with fail
      refine (awake_any _ hG4).mono ?_
      rintro e w5 ⟨rfl, HX⟩
      have HX5 : Hid (Ext w w5) := HX4.out.trans HX
      clear HX
      go_wp2
      go_ret
      exact ⟨rfl, HX5.out⟩
set_option maxHeartbeats 1000000 in
theorem hmacExpands_any (key info : ByteArray) (hk : key.size ≤ maxLen) (hi : info.size ≤ maxLen) (n : Int) (h1 : -9223372036854775808 ≤ n) (h2 : n ≤ 9223372036854775807) (w : World) (hG : Gl w) :
    Calls Tryd.prog 4 #[.string key, .string info, .int .i64 n] w fun e w' => e = .returned (.bool true) ∧ Ext w w' := by
  unfold maxLen at hk hi
  by_cases h5 : 2000 < key.size
  · have h6 : (2000 : Int) < (key.size : Int) := by omega
    go_enter Tryd.func4, Tryd.ntmps4
    go_wp2_with fail
    refine (awake_any _ hG).mono ?_
    rintro e w2 ⟨rfl, HX⟩
    have HX2 : Hid (Ext w w2) := HX
    clear HX
    go_wp2
    go_ret
    exact ⟨rfl, HX2.out⟩
  · have h6 : ¬ (2000 : Int) < (key.size : Int) := by omega
    by_cases g5 : 2000 < info.size
    · have g6 : (2000 : Int) < (info.size : Int) := by omega
      go_enter Tryd.func4, Tryd.ntmps4
      go_wp2_with fail
      refine (awake_any _ hG).mono ?_
      rintro e w2 ⟨rfl, HX⟩
      have HX2 : Hid (Ext w w2) := HX
      clear HX
      go_wp2
      go_ret
      exact ⟨rfl, HX2.out⟩
    · have g6 : ¬ (2000 : Int) < (info.size : Int) := by omega
      by_cases hb : n < 0
      · have n1 : ¬ 2000 < n := by omega
        go_enter Tryd.func4, Tryd.ntmps4
        go_wp2_with fail
        refine (hexpand_bad key info n h1 h2 (Or.inl hb) _ hG).mono ?_
        rintro e w1 ⟨rfl, HX⟩
        have HX1 : Hid (Ext w w1) := HX
        have hG1 := hG.ext HX
        clear HX
        go_wp2_with fail
        refine (rexpand_bad key info n (Or.inl hb) _).mono ?_
        rintro e w2 ⟨rfl, HX⟩
        have HX2 : Hid (Ext w w2) := HX1.out.trans HX
        have hG2 := hG1.ext HX
        clear HX
        go_wp2_with fail
        refine (awake_any _ hG2).mono ?_
        rintro e w5 ⟨rfl, HX⟩
        have HX5 : Hid (Ext w w5) := HX2.out.trans HX
        clear HX
        go_wp2
        go_ret
        exact ⟨rfl, HX5.out⟩
      · by_cases hc : 8160 < n
        · have n1 : 2000 < n := by omega
          have n2 : ¬ n ≤ 8160 := by omega
          go_enter Tryd.func4, Tryd.ntmps4
          go_wp2_with fail
          refine (hexpand_bad key info n h1 h2 (Or.inr hc) _ hG).mono ?_
          rintro e w1 ⟨rfl, HX⟩
          have HX1 : Hid (Ext w w1) := HX
          have hG1 := hG.ext HX
          clear HX
          go_wp2_with fail
          refine (rexpand_bad key info n (Or.inr hc) _).mono ?_
          rintro e w2 ⟨rfl, HX⟩
          have HX2 : Hid (Ext w w2) := HX1.out.trans HX
          have hG2 := hG1.ext HX
          clear HX
          go_wp2_with fail
          refine (awake_any _ hG2).mono ?_
          rintro e w5 ⟨rfl, HX⟩
          have HX5 : Hid (Ext w w5) := HX2.out.trans HX
          clear HX
          go_wp2
          go_ret
          exact ⟨rfl, HX5.out⟩
        · by_cases hd : 2000 < n
          · have n2 : n ≤ 8160 := by omega
            go_enter Tryd.func4, Tryd.ntmps4
            go_wp2_with fail
            refine (awake_any _ hG).mono ?_
            rintro e w2 ⟨rfl, HX⟩
            have HX2 : Hid (Ext w w2) := HX
            clear HX
            go_wp2
            go_ret
            exact ⟨rfl, HX2.out⟩
          · obtain ⟨N, rfl⟩ : ∃ N : Nat, n = (N : Int) := ⟨n.toNat, by omega⟩
            obtain ⟨r, HR⟩ : ∃ r, Hid (expS key info N = r) := ⟨_, rfl⟩
            go_enter Tryd.func4, Tryd.ntmps4
            go_wp2_with fail
            refine (hexpand_any key info (by omega) (by omega) N (by omega) _ hG).mono ?_
            rintro e w1 ⟨rfl, HX⟩
            rw [HR.out]
            have HX1 : Hid (Ext w w1) := HX
            have hG1 := hG.ext HX
            clear HX
            go_wp2_with fail
            refine (rexpand_any key info (by omega) (by omega) N (by omega) _).mono ?_
            rintro e w2 ⟨rfl, HX⟩
            rw [HR.out]
            have HX2 : Hid (Ext w w2) := HX1.out.trans HX
            have hG2 := hG1.ext HX
            clear HX
            go_wp2_with fail
            refine (awake_any _ hG2).mono ?_
            rintro e w5 ⟨rfl, HX⟩
            have HX5 : Hid (Ext w w5) := HX2.out.trans HX
            clear HX
            go_wp2
            go_ret
            exact ⟨rfl, HX5.out⟩
end Go.Proofs.YtfhglfldmboanaaDoor

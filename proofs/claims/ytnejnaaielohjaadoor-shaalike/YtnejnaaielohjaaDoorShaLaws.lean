/-
  ShaBlocks, ShaEach, ShaAlike, called: true for every input; nothing old is turned.
-/
import Derived.Test.YtnejnaaielohjaaDoorShaAwake
namespace Go.Proofs.YtnejnaaielohjaaDoor
open Go.RowKit
set_option maxHeartbeats 400000 in
theorem shaBlocks_any (n : Int) (h1 : -9223372036854775808 ≤ n) (h2 : n ≤ 9223372036854775807) (w : World) (hG : Gl w) :
    Calls Tryd.prog 4 #[.int .i64 n] w fun e w' => e = .returned (.bool true) ∧ Ext w w' := by
  obtain ⟨r, HR⟩ : ∃ r, Hid (blkI n = r) := ⟨_, rfl⟩
  go_enter Tryd.func4, Tryd.ntmps4
  go_wp2_with fail
  refine (sblocks_any n h1 h2 _ hG).mono ?_
  rintro e w1 ⟨rfl, HX⟩
  rw [HR.out]
  have HX1 : Hid (Ext w w1) := HX
  have hG1 := hG.ext HX
  clear HX
  go_wp2_with fail
  refine (refBlocks_any n h1 h2 _).mono ?_
  rintro e _ ⟨rfl, rfl⟩
  rw [HR.out]
  go_wp2_with fail
  refine (awake_any _ hG1).mono ?_
  rintro e w2 ⟨rfl, HX⟩
  have HX2 : Hid (Ext w w2) := HX1.out.trans HX
  clear HX
  go_wp2
  go_ret
  exact ⟨rfl, HX2.out⟩
theorem blkI_zero {n : Int} (h : n < 0 ∨ 1152921504606846976 < n) : blkI n = 0 := if_pos h
theorem blkI_some {n : Int} (h : ¬ (n < 0 ∨ 1152921504606846976 < n)) : blkI n = (n + 8) / 64 + 1 := if_neg h
set_option maxHeartbeats 400000 in
theorem shaEach_any (n : Int) (h1 : -9223372036854775808 ≤ n) (h2 : n ≤ 9223372036854775807) (w : World) (hG : Gl w) :
    Calls Tryd.prog 5 #[.int .i64 n] w fun e w' => e = .returned (.bool true) ∧ Ext w w' := by
  by_cases hn : n < 0
  · go_enter Tryd.func5, Tryd.ntmps5
    go_wp2_with fail
    refine (sblocks_any n h1 h2 _ hG).mono ?_
    rintro e w1 ⟨rfl, HX⟩
    rw [blkI_zero (Or.inl hn)]
    have HX1 : Hid (Ext w w1) := HX
    have hG1 := hG.ext HX
    clear HX
    go_wp2_with fail
    refine (awake_any _ hG1).mono ?_
    rintro e w2 ⟨rfl, HX⟩
    have HX2 : Hid (Ext w w2) := HX1.out.trans HX
    clear HX
    go_wp2
    go_ret
    exact ⟨rfl, HX2.out⟩
  · by_cases hm : 1152921504606846976 < n
    · go_enter Tryd.func5, Tryd.ntmps5
      go_wp2_with fail
      refine (sblocks_any n h1 h2 _ hG).mono ?_
      rintro e w1 ⟨rfl, HX⟩
      rw [blkI_zero (Or.inr hm)]
      have HX1 : Hid (Ext w w1) := HX
      have hG1 := hG.ext HX
      clear HX
      go_wp2_with fail
      refine (awake_any _ hG1).mono ?_
      rintro e w2 ⟨rfl, HX⟩
      have HX2 : Hid (Ext w w2) := HX1.out.trans HX
      clear HX
      go_wp2
      go_ret
      exact ⟨rfl, HX2.out⟩
    · obtain ⟨k, hk⟩ : ∃ k, (n + 8) / 64 + 1 = k := ⟨_, rfl⟩
      have HB : Hid (blkI n = k) := by show _ = _; rw [blkI_some (by omega), hk]
      have k1 : (1 : Int) ≤ k := by omega
      have m1 : IntKind.i64.wrap (64 * k) = 64 * k := by rw [IntKind.wrap_i64]; omega
      have m2 : IntKind.i64.wrap (64 * k - 9) = 64 * k - 9 := by rw [IntKind.wrap_i64]; omega
      have m3 : IntKind.i64.wrap (k - 1) = k - 1 := by rw [IntKind.wrap_i64]; omega
      have m4 : IntKind.i64.wrap (64 * (k - 1)) = 64 * (k - 1) := by rw [IntKind.wrap_i64]; omega
      have m5 : IntKind.i64.wrap (64 * (k - 1) - 9) = 64 * (k - 1) - 9 := by rw [IntKind.wrap_i64]; omega
      have l1 : n ≤ 64 * k - 9 := by omega
      have l2 : 64 * (k - 1) - 9 < n := by omega
      clear hk
      go_enter Tryd.func5, Tryd.ntmps5
      go_wp2_with fail
      refine (sblocks_any n h1 h2 _ hG).mono ?_
      rintro e w1 ⟨rfl, HX⟩
      rw [HB.out]
      have HX1 : Hid (Ext w w1) := HX
      have hG1 := hG.ext HX
      clear HX
      go_wp2_with fail
      refine (awake_any _ hG1).mono ?_
      rintro e w2 ⟨rfl, HX⟩
      have HX2 : Hid (Ext w w2) := HX1.out.trans HX
      clear HX
      go_wp2
      go_ret
      exact ⟨rfl, HX2.out⟩
theorem same_text {s t : ByteArray} (h : s.toList = t.toList) : s = t := by
  rw [ByteArray.toList_eq, ByteArray.toList_eq] at h
  cases s with
  | mk a => cases t with
    | mk b => exact congrArg ByteArray.mk (Array.toList_inj.1 h)
theorem shaS_size (s : ByteArray) : (shaS s).size = 32 := by
  show (((List.range 32).map fun i => UInt8.ofNat (shaB (sb s) s.size i)).toArray).size = 32
  simp
set_option maxHeartbeats 1000000 in
theorem shaAlike_any (s t : ByteArray) (hs : s.size ≤ maxLen) (ht : t.size ≤ maxLen) (w : World) (hG : Gl w) :
    Calls Tryd.prog 6 #[.string s, .string t] w fun e w' => e = .returned (.bool true) ∧ Ext w w' := by
  unfold maxLen at hs ht
  by_cases h5 : 5000 < s.size
  · have h6 : (5000 : Int) < (s.size : Int) := by omega
    go_enter Tryd.func6, Tryd.ntmps6
    go_wp2_with fail
    refine (awake_any _ hG).mono ?_
    rintro e w2 ⟨rfl, HX⟩
    have HX2 : Hid (Ext w w2) := HX
    clear HX
    go_wp2
    go_ret
    exact ⟨rfl, HX2.out⟩
  · have h6 : ¬ (5000 : Int) < (s.size : Int) := by omega
    by_cases g5 : 5000 < t.size
    · have g6 : (5000 : Int) < (t.size : Int) := by omega
      go_enter Tryd.func6, Tryd.ntmps6
      go_wp2_with fail
      refine (awake_any _ hG).mono ?_
      rintro e w2 ⟨rfl, HX⟩
      have HX2 : Hid (Ext w w2) := HX
      clear HX
      go_wp2
      go_ret
      exact ⟨rfl, HX2.out⟩
    · have g6 : ¬ (5000 : Int) < (t.size : Int) := by omega
      obtain ⟨a, z1, HA⟩ : ∃ a : ByteArray, a.size = 32 ∧ Hid (shaS s = a) := ⟨_, shaS_size s, rfl⟩
      obtain ⟨b, z2, HB⟩ : ∃ b : ByteArray, b.size = 32 ∧ Hid (shaS t = b) := ⟨_, shaS_size t, rfl⟩
      have HC : Hid ((a.toList == b.toList) = true ∨ ((a.toList == b.toList) = false ∧ (s.toList == t.toList) = false)) := by
        show _ ∨ _
        by_cases e : (a.toList == b.toList) = true
        · exact Or.inl e
        · refine Or.inr ⟨by simpa using e, ?_⟩
          by_cases q : (s.toList == t.toList) = true
          · have q2 : s = t := same_text (eq_of_beq q)
            exact absurd (show (a.toList == b.toList) = true by rw [← HA.out, ← HB.out, q2]; simp) e
          · simpa using q
      go_enter Tryd.func6, Tryd.ntmps6
      go_wp2_with fail
      refine (ssum_any s (by omega) _ hG).mono ?_
      rintro e w1 ⟨rfl, HX⟩
      rw [HA.out]
      have HX1 : Hid (Ext w w1) := HX
      have hG1 := hG.ext HX
      clear HX
      go_wp2_with fail
      refine (ssum_any t (by omega) _ hG1).mono ?_
      rintro e w2 ⟨rfl, HX⟩
      rw [HB.out]
      have HX2 : Hid (Ext w w2) := HX1.out.trans HX
      have hG2 := hG1.ext HX
      clear HX
      rcases HC.out with hab | ⟨hab, hst⟩
      · go_wp2_with fail
        refine (awake_any _ hG2).mono ?_
        rintro e w3 ⟨rfl, HX⟩
        have HX3 : Hid (Ext w w3) := HX2.out.trans HX
        clear HX
        go_wp2
        go_ret
        exact ⟨rfl, HX3.out⟩
      · go_wp2_with fail
        refine (awake_any _ hG2).mono ?_
        rintro e w3 ⟨rfl, HX⟩
        have HX3 : Hid (Ext w w3) := HX2.out.trans HX
        clear HX
        go_wp2
        go_ret
        exact ⟨rfl, HX3.out⟩
end Go.Proofs.YtnejnaaielohjaaDoor

/-
  The laws of layer 10, called: true for every input; nothing old is turned.
-/
import Derived.Test.YtgpcnmdaplkpoaaPAwake
import Derived.Test.YtgpcnmdaplkpoaaPLess
import Derived.Test.YtgpcnmdaplkpoaaRefMac
namespace Go.Proofs.Ytgpcnmdaplkpoaa
open Go.RowKit
theorem clB_twice (j v : Nat) : clB j (clB j v) = clB j v := by
  unfold clB
  split
  · omega
  · split
    · omega
    · rfl
theorem sb_clS (t : ByteArray) (j : Nat) (hj : j < 16) : sb (clS t) j = clB j (sb t j) := by
  unfold clS
  rw [sb_mkS (clP_lt (sb_lt _) 16) hj]
  exact if_pos hj
theorem clS_twice (t : ByteArray) : clS (clS t) = clS t := by
  show mkS _ 16 = mkS _ 16
  refine mkS_congr fun j hj => ?_
  unfold clP
  rw [if_pos hj, if_pos hj, sb_clS t j hj, clB_twice]
theorem keyR_congr {a b : ByteArray} (h : ∀ j, j < 16 → clB j (sb a j) = clB j (sb b j)) : keyR a = keyR b := by
  unfold keyR
  refine leN_congr 16 fun j hj => ?_
  unfold clP
  rw [if_pos hj, if_pos hj, h j hj]
theorem macS_congr {a b s : ByteArray} (h1 : keyR a = keyR b) (h2 : keyA a = keyA b) : macS a s = macS b s := by
  unfold macS macB macV
  rw [h1, h2]
theorem macS_clamped (key s : ByteArray) (hk : key.size = 32) : macS (clS (key.extract 0 16) ++ key.extract 16 32) s = macS key s := by
  have hx := clS_size (key.extract 0 16)
  refine macS_congr (keyR_congr fun j hj => ?_) ?_
  · rw [sb_append, if_pos (by omega), sb_clS _ j hj, clB_twice, sb_ext j (by omega) (by omega), Nat.zero_add]
  · unfold keyA
    refine leN_congr 16 fun j hj => ?_
    rw [sb_append, if_neg (by omega), hx, show 16 + j - 16 = j by omega, sb_ext j (by omega) (by omega)]
theorem cat_size (a b : ByteArray) : (a ++ b).size = a.size + b.size := ByteArray.size_append
theorem tag_less (key other s : ByteArray) (hk : key.size = 32) (_ho : other.size = 16) (j : Nat) (hj : j < 16) :
    df (sb (macS key s)) (sb (key.extract 16 32)) j = df (sb (macS (key.extract 0 16 ++ other) s)) (sb other) j := by
  have hz : (key.extract 0 16).size = 16 := size_ext (by omega)
  have hR : keyR (key.extract 0 16 ++ other) = keyR key := keyR_congr fun j hj => by
    rw [sb_append, if_pos (by omega), sb_ext j (by omega) (by omega), Nat.zero_add]
  have hA1 : leN (sb (key.extract 16 32)) 16 = keyA key := leN_congr 16 fun j hj => sb_ext j (by omega) (by omega)
  have hA2 : leN (sb other) 16 = keyA (key.extract 0 16 ++ other) := leN_congr 16 fun j hj => by
    rw [sb_append, if_neg (by omega), hz, show 16 + j - 16 = j by omega]
  have hm : ∀ k, leN (sb (macS k s)) 16 = macV k s % 2 ^ (8 * 16) := fun k => by
    rw [← leN_bytes]
    exact leN_congr 16 fun j hj => by unfold macS; rw [sb_mkS (macB_lt k s) hj]; rfl
  refine leN_inj (df_lt _ _) (df_lt _ _) 16 ?_ j hj
  have d1 := df_val (sb_lt (macS key s)) (sb_lt (key.extract 16 32)) 16
  have d2 := df_val (sb_lt (macS (key.extract 0 16 ++ other) s)) (sb_lt other) 16
  have l1 := leN_lt (df_lt (sb (macS key s)) (sb (key.extract 16 32))) 16
  have l2 := leN_lt (df_lt (sb (macS (key.extract 0 16 ++ other) s)) (sb other)) 16
  rw [hm, hA1] at d1
  rw [hm, hA2] at d2
  unfold macV at d1 d2
  rw [hR] at d2
  have b1 := bw_le (sb (macS key s)) (sb (key.extract 16 32)) 16
  have b2 := bw_le (sb (macS (key.extract 0 16 ++ other) s)) (sb other) 16
  have k1 := keyA_lt key
  have k2 := keyA_lt (key.extract 0 16 ++ other)
  rw [show 2 ^ (8 * 16) = 340282366920938463463374607431768211456 by decide] at d1 d2 l1 l2
  generalize pacc (sb s) s.size (keyR key) ((s.size + 15) / 16) = p at *
  omega
theorem run_eq16 (T : Nat → Nat) (w : World) : (Op.equalIn 10000 32 (.agg (lst .u8 T 16).toArray) (.agg (lst .u8 T 16).toArray)).run Try.prog w = .ok true w := by
  show (Op.equalIn (9998 + 1 + 1) 32 (.agg #[.int .u8 (T 0 : Int), .int .u8 (T 1 : Int), .int .u8 (T 2 : Int), .int .u8 (T 3 : Int), .int .u8 (T 4 : Int), .int .u8 (T 5 : Int), .int .u8 (T 6 : Int), .int .u8 (T 7 : Int), .int .u8 (T 8 : Int), .int .u8 (T 9 : Int), .int .u8 (T 10 : Int), .int .u8 (T 11 : Int), .int .u8 (T 12 : Int), .int .u8 (T 13 : Int), .int .u8 (T 14 : Int), .int .u8 (T 15 : Int)]) (.agg #[.int .u8 (T 0 : Int), .int .u8 (T 1 : Int), .int .u8 (T 2 : Int), .int .u8 (T 3 : Int), .int .u8 (T 4 : Int), .int .u8 (T 5 : Int), .int .u8 (T 6 : Int), .int .u8 (T 7 : Int), .int .u8 (T 8 : Int), .int .u8 (T 9 : Int), .int .u8 (T 10 : Int), .int .u8 (T 11 : Int), .int .u8 (T 12 : Int), .int .u8 (T 13 : Int), .int .u8 (T 14 : Int), .int .u8 (T 15 : Int)])).run Try.prog w = _
  rw [Op.equalIn]
  simp only [Sem.run_bind, run_underlying Try.underlying32, Result.andThen_ok]
  simp only [Std.Legacy.Range.forIn_eq_forIn_range', List.range', Std.Legacy.Range.size]
  simp [go_sem, run_equalIn_int, Try.underlying5]
theorem mac_two (key s : ByteArray) (hs : s.size ≤ 100000) : ∃ (r : ByteArray) (n : Int), (n = 0 ∨ n = 2) ∧ (∀ W, Calls Try.prog 8 #[.string key, .string s] W fun e w' => e = .returned (.tuple #[.string r, .int .i64 n]) ∧ Ext W w') ∧ (∀ W, Calls Try.prog 9 #[.string key, .string s] W fun e w' => e = .returned (.tuple #[.string r, .int .i64 n]) ∧ Ext W w') := by
  by_cases h : key.size = 32
  · exact ⟨_, _, Or.inl rfl, pmac_any key s h hs, rmac_any key s h hs⟩
  · exact ⟨_, _, Or.inr rfl, pmac_bad key s h, rmac_bad key s h⟩
set_option maxHeartbeats 1000000 in
theorem polyMacs_any (key s : ByteArray) (w : World) :
    Calls Try.prog 3 #[.string key, .string s] w fun e w' => e = .returned (.bool true) ∧ Ext w w' := by
  have CA : Hid (∀ W, Calls Try.prog 7 #[] W fun e w' => e = .returned (.bool true) ∧ Ext W w') := awake_any
  by_cases h : s.size ≤ 2000
  · have h1 : ¬ (2000 : Int) < (s.size : Int) := by omega
    obtain ⟨r, n, hn, hC1, hC2⟩ := mac_two key s (by omega)
    have C1 : Hid (∀ W, Calls Try.prog 8 #[.string key, .string s] W fun e w' => e = .returned (.tuple #[.string r, .int .i64 n]) ∧ Ext W w') := hC1
    have C2 : Hid (∀ W, Calls Try.prog 9 #[.string key, .string s] W fun e w' => e = .returned (.tuple #[.string r, .int .i64 n]) ∧ Ext W w') := hC2
    have hw : IntKind.i64.wrap n = n := by rw [IntKind.wrap_i64]; omega
    clear hC1 hC2 hn
    go_enter Try.func3, Try.ntmps3
    go_wp2_with fail
    with_reducible refine (C1.out _).mono ?_
    rintro e w1 ⟨rfl, HX⟩
    have HX1 : Hid (Ext w w1) := HX
    clear HX
    go_wp2_with fail
    with_reducible refine (C2.out _).mono ?_
    rintro e w2 ⟨rfl, HX⟩
    have HX2 : Hid (Ext w w2) := HX1.out.trans HX
    clear HX
    go_wp2_with fail
    with_reducible refine (CA.out _).mono ?_
    rintro e w3 ⟨rfl, HX⟩
    have HX3 : Hid (Ext w w3) := HX2.out.trans HX
    clear HX
    go_wp2
    go_ret
    exact ⟨rfl, HX3.out⟩
  · have h1 : (2000 : Int) < (s.size : Int) := by omega
    go_enter Try.func3, Try.ntmps3
    go_wp2_with fail
    with_reducible refine (CA.out _).mono ?_
    rintro e w1 ⟨rfl, HX⟩
    have HX1 : Hid (Ext w w1) := HX
    clear HX
    go_wp2
    go_ret
    exact ⟨rfl, HX1.out⟩
set_option maxHeartbeats 1000000 in
theorem polyClamps_any (s : ByteArray) (w : World) :
    Calls Try.prog 4 #[.string s] w fun e w' => e = .returned (.bool true) ∧ Ext w w' := by
  have CA : Hid (∀ W, Calls Try.prog 7 #[] W fun e w' => e = .returned (.bool true) ∧ Ext W w') := awake_any
  by_cases h : s.size = 16
  · have C1 : Hid (∀ W, Calls Try.prog 10 #[.string s] W fun e w' => e = .returned (.tuple #[.string (clS s), .int .i64 0]) ∧ Ext W w') := pclamp_any s h
    have C2 : Hid (∀ W, Calls Try.prog 11 #[.string s] W fun e w' => e = .returned (.tuple #[.string (clS s), .int .i64 0]) ∧ Ext W w') := rclamp_any s h
    have C3 : Hid (∀ W, Calls Try.prog 10 #[.string (clS s)] W fun e w' => e = .returned (.tuple #[.string (clS s), .int .i64 0]) ∧ Ext W w') := fun W => by
      have := pclamp_any (clS s) (clS_size s) W
      rw [clS_twice] at this
      exact this
    generalize clS s = r at *
    clear h
    go_enter Try.func4, Try.ntmps4
    go_wp2_with fail
    with_reducible refine (C1.out _).mono ?_
    rintro e w1 ⟨rfl, HX⟩
    have HX1 : Hid (Ext w w1) := HX
    clear HX
    go_wp2_with fail
    with_reducible refine (C2.out _).mono ?_
    rintro e w2 ⟨rfl, HX⟩
    have HX2 : Hid (Ext w w2) := HX1.out.trans HX
    clear HX
    go_wp2_with fail
    with_reducible refine (C3.out _).mono ?_
    rintro e w3 ⟨rfl, HX⟩
    have HX3 : Hid (Ext w w3) := HX2.out.trans HX
    clear HX
    go_wp2_with fail
    with_reducible refine (CA.out _).mono ?_
    rintro e w4 ⟨rfl, HX⟩
    have HX4 : Hid (Ext w w4) := HX3.out.trans HX
    clear HX
    go_wp2
    go_ret
    exact ⟨rfl, HX4.out⟩
  · have C1 : Hid (∀ W, Calls Try.prog 10 #[.string s] W fun e w' => e = .returned (.tuple #[.string ⟨#[]⟩, .int .i64 2]) ∧ Ext W w') := pclamp_bad s h
    have C2 : Hid (∀ W, Calls Try.prog 11 #[.string s] W fun e w' => e = .returned (.tuple #[.string ⟨#[]⟩, .int .i64 2]) ∧ Ext W w') := rclamp_bad s h
    clear h
    go_enter Try.func4, Try.ntmps4
    go_wp2_with fail
    with_reducible refine (C1.out _).mono ?_
    rintro e w1 ⟨rfl, HX⟩
    have HX1 : Hid (Ext w w1) := HX
    clear HX
    go_wp2_with fail
    with_reducible refine (C2.out _).mono ?_
    rintro e w2 ⟨rfl, HX⟩
    have HX2 : Hid (Ext w w2) := HX1.out.trans HX
    clear HX
    go_wp2_with fail
    with_reducible refine (CA.out _).mono ?_
    rintro e w3 ⟨rfl, HX⟩
    have HX3 : Hid (Ext w w3) := HX2.out.trans HX
    clear HX
    go_wp2
    go_ret
    exact ⟨rfl, HX3.out⟩
set_option maxHeartbeats 1000000 in
theorem polyClamped_any (key s : ByteArray) (w : World) :
    Calls Try.prog 5 #[.string key, .string s] w fun e w' => e = .returned (.bool true) ∧ Ext w w' := by
  have CA : Hid (∀ W, Calls Try.prog 7 #[] W fun e w' => e = .returned (.bool true) ∧ Ext W w') := awake_any
  by_cases hk : key.size = 32
  · have hk1 : (key.size : Int) = 32 := by omega
    by_cases h : s.size ≤ 2000
    · have h1 : ¬ (2000 : Int) < (s.size : Int) := by omega
      have C1 : Hid (∀ W, Calls Try.prog 10 #[.string (key.extract 0 16)] W fun e w' => e = .returned (.tuple #[.string (clS (key.extract 0 16)), .int .i64 0]) ∧ Ext W w') := pclamp_any _ (by rw [size_ext (by omega)])
      have C2 : Hid (∀ W, Calls Try.prog 8 #[.string key, .string s] W fun e w' => e = .returned (.tuple #[.string (macS key s), .int .i64 0]) ∧ Ext W w') := pmac_any key s hk (by omega)
      have C3 : Hid (∀ W, Calls Try.prog 8 #[.string (clS (key.extract 0 16) ++ key.extract 16 key.size), .string s] W fun e w' => e = .returned (.tuple #[.string (macS key s), .int .i64 0]) ∧ Ext W w') := fun W => by
        have := pmac_any (clS (key.extract 0 16) ++ key.extract 16 32) s (by rw [cat_size, clS_size, size_ext (by omega)]) (by omega) W
        rw [macS_clamped key s hk] at this
        rw [hk]
        exact this
      have hsz : ¬ 9223372036854775807 < (clS (key.extract 0 16)).size + (key.extract 16 key.size).size := by rw [clS_size, size_ext (by omega)]; omega
      have hm : (macS key s).size = 16 := macS_size _ _
      generalize clS (key.extract 0 16) = c at *
      generalize macS key s = r at *
      have hm1 : (r.size : Int) = 16 := by omega
      have HK : Hid (key.size = 32) := hk
      clear hk
      go_enter Try.func5, Try.ntmps5
      go_wp2_with fail
      with_reducible refine (C1.out _).mono ?_
      rintro e w1 ⟨rfl, HX⟩
      have HX1 : Hid (Ext w w1) := HX
      clear HX
      go_wp2_with fail
      with_reducible refine (C2.out _).mono ?_
      rintro e w2 ⟨rfl, HX⟩
      have HX2 : Hid (Ext w w2) := HX1.out.trans HX
      clear HX
      go_wp2_with fail
      with_reducible refine (C3.out _).mono ?_
      rintro e w3 ⟨rfl, HX⟩
      have HX3 : Hid (Ext w w3) := HX2.out.trans HX
      clear HX
      go_wp2_with fail
      with_reducible refine (CA.out _).mono ?_
      rintro e w4 ⟨rfl, HX⟩
      have HX4 : Hid (Ext w w4) := HX3.out.trans HX
      clear HX
      go_wp2
      go_ret
      exact ⟨rfl, HX4.out⟩
    · have h1 : (2000 : Int) < (s.size : Int) := by omega
      go_enter Try.func5, Try.ntmps5
      go_wp2_with fail
      with_reducible refine (CA.out _).mono ?_
      rintro e w1 ⟨rfl, HX⟩
      have HX1 : Hid (Ext w w1) := HX
      clear HX
      go_wp2
      go_ret
      exact ⟨rfl, HX1.out⟩
  · have hk1 : ¬ (key.size : Int) = 32 := by omega
    go_enter Try.func5, Try.ntmps5
    go_wp2_with fail
    with_reducible refine (CA.out _).mono ?_
    rintro e w1 ⟨rfl, HX⟩
    have HX1 : Hid (Ext w w1) := HX
    clear HX
    go_wp2
    go_ret
    exact ⟨rfl, HX1.out⟩
end Go.Proofs.Ytgpcnmdaplkpoaa

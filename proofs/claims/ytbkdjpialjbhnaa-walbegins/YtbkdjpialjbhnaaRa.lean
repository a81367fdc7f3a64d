/-
  record.shift, Sum, numberText, textNumber, called; nothing old is turned.
-/
import Derived.Test.YtbkdjpialjbhnaaScP
namespace Go.Proofs.Ytbkdjpialjbhnaa
open Go.RowKit
set_option maxHeartbeats 1000000 in
theorem pshift_any (y : Nat) (hy : y < 4294967296) (w : World) :
    Calls Try.prog 43 #[.int .u32 (y : Int)] w fun e w' => e = .returned (.int .u32 (csteps 8 y : Nat)) ∧ Ext w w' := by
  have Hy : Hid (y < 4294967296) := hy
  clear hy
  go_enter Try.func43, Try.ntmps43
  go_wp2
  go_loopw [0, 4] (fun u0 u4 wr => ∃ k : Nat, k ≤ 8 ∧ u4 = .int .i64 k ∧ u0 = .int .u32 (csteps k y) ∧ wr = w) (fun _ u4 _ => 8 - (intOf u4).toNat)
  case atStart => exact ⟨0, Nat.zero_le _, rfl, rfl, rfl⟩
  case round =>
    obtain ⟨k, hk, rfl, rfl, rfl⟩ := hrel
    by_cases hk8 : k < 8
    · obtain ⟨q1, q2⟩ := k8_nums k hk8
      have hz := csteps_lt k Hy.out
      have HZ : Hid (csteps (k + 1) y = cstep (csteps k y)) := csteps_succ k y
      generalize csteps k y = z at *
      obtain ⟨n1, ⟨n2, n3, n4⟩ | ⟨n2, n3, n4⟩⟩ := st_nums z hz
      · go_wp2
        go_roundw
        case rel => exact ⟨k + 1, hk8, by push_cast; rfl, by rw [HZ.out], by first | rfl | trivial⟩
        case measure => (simp [intOf]; omega)
      · go_wp2
        go_roundw
        case rel => exact ⟨k + 1, hk8, by push_cast; rfl, by rw [HZ.out], by first | rfl | trivial⟩
        case measure => (simp [intOf]; omega)
    · have HK : Hid (k = 8) := by show _ = _; omega
      have q1 : ¬ (k : Int) < 8 := by omega
      go_wp2
      go_ret
      exact ⟨by rw [HK.out]; rfl, Ext.refl _⟩
set_option maxHeartbeats 1000000 in
theorem csum_any (s : ByteArray) (hs : s.size ≤ 100000) (w : World) :
    Calls Try.prog 39 #[.string s] w fun e w' => e = .returned (.int .u32 (crcN s)) ∧ Ext w w' := by
  obtain ⟨S, hS⟩ : ∃ S, s.size = S := ⟨_, rfl⟩
  have HS : Hid (s.size = S) := hS
  rw [hS] at hs
  have Hs : Hid (S ≤ 100000) := hs
  have HE0 : Hid (Ext w w) := Ext.refl w
  clear hs
  go_enter Try.func39, Try.ntmps39
  go_wp2
  go_loopw [3, 7] (fun u3 u7 wr => ∃ i : Nat, i ≤ S ∧ u7 = .int .i64 i ∧ u3 = .int .u32 (cfold (sb s) 4294967295 i) ∧ Hid (Ext w wr)) (fun _ u7 _ => S - (intOf u7).toNat)
  case atStart => exact ⟨0, Nat.zero_le _, rfl, rfl, HE0⟩
  case round =>
    obtain ⟨i, hi, rfl, rfl, HE⟩ := hrel
    clear HE0
    by_cases hlt : i < S
    · obtain ⟨h1, h0, hw⟩ := sum_nums i S hlt Hs.out
      have his : i < s.size := by rw [hS]; exact hlt
      have eb := sb_at s his
      have hbl := sb_lt s i
      obtain ⟨c, Hc⟩ : ∃ c, Hid (cfold (sb s) 4294967295 i = c) := ⟨_, rfl⟩
      have hcl : c < 4294967296 := by rw [← Hc.out]; exact cfold_lt (sb_lt s) (by omega) i
      obtain ⟨b, Hb⟩ : ∃ b, Hid (sb s i = b) := ⟨_, rfl⟩
      rw [Hb.out] at eb hbl
      rw [Hc.out]
      have hx : bits .xor .u32 (c : Int) (b : Int) = ((c ^^^ b : Nat) : Int) := u32_xor_nat c b hcl (by omega)
      have hxl : c ^^^ b < 4294967296 := Nat.lt_of_lt_of_eq (Nat.xor_lt_two_pow (n := 32) (Nat.lt_of_lt_of_eq hcl (by rfl)) (Nat.lt_of_lt_of_eq (m := 4294967296) (by omega) (by rfl))) (by rfl)
      have HN : Hid (cfold (sb s) 4294967295 (i + 1) = csteps 8 (c ^^^ b)) := by show cbyte _ _ = _; rw [Hc.out, Hb.out]; rfl
      generalize hy : c ^^^ b = y at *
      clear hy Hb hcl
      have HC : Hid (∀ W, Calls Try.prog 43 #[.int .u32 (y : Int)] W fun e w' => e = .returned (.int .u32 (csteps 8 y : Nat)) ∧ Ext W w') := fun W => pshift_any y hxl W
      go_wp2_with fail
      refine (HC.out _).mono ?_
      rintro e w1 ⟨rfl, HX⟩
      have HE1 : Hid (Ext w w1) := HE.out.trans HX
      clear HX
      go_wp2
      go_roundw
      case rel => exact ⟨i + 1, hlt, by push_cast; rfl, by rw [HN.out], HE1⟩
      case measure => (simp [intOf]; omega)
    · obtain rfl : i = S := by omega
      have hnl : ¬ (i : Int) < (i : Int) := by omega
      obtain ⟨c, Hc⟩ : ∃ c, Hid (cfold (sb s) 4294967295 i = c) := ⟨_, rfl⟩
      have hcl : c < 4294967296 := by rw [← Hc.out]; exact cfold_lt (sb_lt s) (by omega) i
      have HR : Hid (crcN s = c ^^^ 4294967295) := by show crcN s = _; unfold crcN; rw [HS.out, Hc.out]
      have hx : bits .xor .u32 IntKind.u32.max (c : Int) = ((4294967295 ^^^ c : Nat) : Int) := u32_xor_nat 4294967295 c (by decide) hcl
      rw [Nat.xor_comm] at hx
      generalize c ^^^ 4294967295 = y at *
      rw [Hc.out]
      go_wp2
      go_ret
      exact ⟨by rw [HR.out]; rfl, HE.out⟩
set_option maxHeartbeats 1000000 in
theorem pnt_any (n : Nat) (hn : n < 4294967296) (w : World) :
    Calls Try.prog 38 #[.int .u32 n] w fun e w' => e = .returned (.string (be4 n)) ∧ Ext w w' := by
  have hc := conv4 w (fun i => n / 256 ^ (3 - i) % 256) 5 4 (x0 := (n : Int) / 16777216) (x1 := (n : Int) / 65536 % 256) (x2 := (n : Int) / 256 % 256) (x3 := (n : Int) % 256) (by show _ = ((n / 16777216 % 256 : Nat) : Int); omega) (by show _ = ((n / 65536 % 256 : Nat) : Int); omega) (by show _ = ((n / 256 % 256 : Nat) : Int); omega) (by show _ = ((n / 1 % 256 : Nat) : Int); omega)
  have HT : Hid (mkS (fun i => n / 256 ^ (3 - i) % 256) 4 = be4 n) := rfl
  generalize mkS (fun i => n / 256 ^ (3 - i) % 256) 4 = x at *
  go_enter Try.func38, Try.ntmps38
  go_wp2
  go_ret
  exact ⟨by rw [← HT.out]; rfl, (Ext.refl _).alloc _⟩
theorem or24u (a b c d : Nat) (ha : a < 256) (hb : b < 256) (hc : c < 256) (hd : d < 256) : bits .or .u32 (bits .or .u32 (bits .or .u32 ((a : Int) * 16777216) ((b : Int) * 65536)) ((c : Int) * 256)) (d : Int) = ((a * 16777216 + b * 65536 + c * 256 + d : Nat) : Int) := by
  have e1 := u32_or_nat (a * 16777216) (b * 65536) (by omega) (by omega)
  rw [nat_join 24 _ _ (by omega) (by omega)] at e1
  have e2 := u32_or_nat (a * 16777216 + b * 65536) (c * 256) (by omega) (by omega)
  rw [nat_join 16 _ _ (by omega) (by omega)] at e2
  have e3 := u32_or_nat (a * 16777216 + b * 65536 + c * 256) d (by omega) (by omega)
  rw [nat_join 8 _ _ (by omega) (by omega)] at e3
  rw [show (a : Int) * 16777216 = ((a * 16777216 : Nat) : Int) from by omega, show (b : Int) * 65536 = ((b * 65536 : Nat) : Int) from by omega, show (c : Int) * 256 = ((c * 256 : Nat) : Int) from by omega, e1, e2, e3]
set_option maxHeartbeats 1000000 in
theorem ptn_any (s : ByteArray) (h : ¬ s.size < 4) (w : World) :
    Calls Try.prog 41 #[.string s] w fun e w' => e = .returned (.int .u32 (num4 s 0 : Nat)) ∧ Ext w w' := by
  obtain ⟨n, hn⟩ : ∃ n, num4 s 0 = n := ⟨_, rfl⟩
  rw [hn]
  have e0 := sb_at s (i := 0) (by omega)
  have e1 := sb_at s (i := 1) (by omega)
  have e2 := sb_at s (i := 2) (by omega)
  have e3 := sb_at s (i := 3) (by omega)
  have g0 := sb_lt s 0; have g1 := sb_lt s 1; have g2 := sb_lt s 2; have g3 := sb_lt s 3
  have hn2 : sb s 0 * 16777216 + sb s 1 * 65536 + sb s 2 * 256 + sb s 3 = n := hn
  have i0 : (0 : Int) < (s.size : Int) := by omega
  have i1 : (1 : Int) < (s.size : Int) := by omega
  have i2 : (2 : Int) < (s.size : Int) := by omega
  have i3 : (3 : Int) < (s.size : Int) := by omega
  have HO : Hid _ := or24u _ _ _ _ g0 g1 g2 g3
  rw [hn2] at HO
  generalize sb s 0 = b0 at *
  generalize sb s 1 = b1 at *
  generalize sb s 2 = b2 at *
  generalize sb s 3 = b3 at *
  clear hn
  go_enter Try.func41, Try.ntmps41
  go_wp2_with fail
  go_quiet (fail)
  rw [HO.out]
  clear e0 e1 e2 e3 g0 g1 g2 g3 HO i0 i1 i2 i3 hn2
  go_wp2
  go_ret
  exact ⟨rfl, (Ext.refl _).drewN _⟩
end Go.Proofs.Ytbkdjpialjbhnaa

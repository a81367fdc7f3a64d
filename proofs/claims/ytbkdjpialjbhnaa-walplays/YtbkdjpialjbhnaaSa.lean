/-
  sandglassref17.Sum, four, Frame, called; nothing old is turned.
-/
import Derived.Test.YtbkdjpialjbhnaaRMath
namespace Go.Proofs.Ytbkdjpialjbhnaa
open Go.RowKit
/-- The numbers of one step. -/
theorem st_nums (c : Nat) (hc : c < 4294967296) : bits .and .u32 (c : Int) 1 = ((c % 2 : Nat) : Int) ∧ ((c % 2 = 0 ∧ (((c % 2 : Nat) : Int) == 1) = false ∧ (c : Int) / 2 = ((cstep c : Nat) : Int)) ∨ (c % 2 = 1 ∧ (((c % 2 : Nat) : Int) == 1) = true ∧ bits .xor .u32 ((c : Int) / 2) 2197175160 = ((cstep c : Nat) : Int))) := by
  refine ⟨?_, ?_⟩
  · have := u32_and_nat c 1 hc (by omega)
    rw [Nat.and_one_is_mod] at this
    exact this
  · rcases bit_cases c with h | h
    · refine .inl ⟨h, by rw [h]; rfl, ?_⟩
      have : cstep c = c / 2 := by unfold cstep; rw [h, Nat.zero_mul, Nat.xor_zero]
      rw [this]; omega
    · refine .inr ⟨h, by rw [h]; rfl, ?_⟩
      have : cstep c = c / 2 ^^^ 2197175160 := by unfold cstep; rw [h, Nat.one_mul]
      rw [this]
      have := u32_xor_nat (c / 2) 2197175160 (by omega) (by omega)
      rw [← this]
      rfl
theorem sum_nums (i S : Nat) (h : i < S) (hS : S ≤ 100000) : (i : Int) < (S : Int) ∧ (0 : Int) ≤ (i : Int) ∧ IntKind.i64.wrap ((i : Int) + 1) = (i : Int) + 1 := by
  refine ⟨?_, ?_, ?_⟩ <;> (try rw [IntKind.wrap_i64]) <;> omega
theorem k8_nums (k : Nat) (h : k < 8) : (k : Int) < 8 ∧ IntKind.i64.wrap ((k : Int) + 1) = (k : Int) + 1 := by
  refine ⟨?_, ?_⟩ <;> (try rw [IntKind.wrap_i64]) <;> omega
set_option maxHeartbeats 1000000 in
theorem rsum_any (s : ByteArray) (hs : s.size ≤ 100000) (w : World) :
    Calls Try.prog 36 #[.string s] w fun e w' => e = .returned (.int .u32 (crcN s)) ∧ Ext w w' := by
  obtain ⟨S, hS⟩ : ∃ S, s.size = S := ⟨_, rfl⟩
  have HS : Hid (s.size = S) := hS
  rw [hS] at hs
  have Hs : Hid (S ≤ 100000) := hs
  clear hs
  go_enter Try.func36, Try.ntmps36
  go_wp2
  go_loopw [3, 4] (fun u3 u4 wr => ∃ i : Nat, i ≤ S ∧ u4 = .int .i64 i ∧ u3 = .int .u32 (cfold (sb s) 4294967295 i) ∧ wr = w) (fun _ u4 _ => S - (intOf u4).toNat)
  case atStart => exact ⟨0, Nat.zero_le _, rfl, rfl, rfl⟩
  case round =>
    obtain ⟨i, hi, rfl, rfl, rfl⟩ := hrel
    by_cases hlt : i < S
    · obtain ⟨h1, h0, hw⟩ := sum_nums i S hlt Hs.out
      have his : i < s.size := by rw [hS]; exact hlt
      have eb := sb_at s his
      have hbl := sb_lt s i
      obtain ⟨c, Hc⟩ : ∃ c, Hid (cfold (sb s) 4294967295 i = c) := ⟨_, rfl⟩
      have hcl : c < 4294967296 := by rw [← Hc.out]; exact cfold_lt (sb_lt s) (by omega) i
      obtain ⟨b, Hb⟩ : ∃ b, Hid (sb s i = b) := ⟨_, rfl⟩
      rw [Hb.out] at eb hbl
      rw [Hc.out]
      have hx : bits .xor .u32 (c : Int) (b : Int) = ((c ^^^ b : Nat) : Int) := u32_xor_nat c b hcl (by omega)
      have hxl : c ^^^ b < 4294967296 := Nat.lt_of_lt_of_eq (Nat.xor_lt_two_pow (n := 32) (Nat.lt_of_lt_of_eq hcl (by rfl)) (Nat.lt_of_lt_of_eq (m := 4294967296) (by omega) (by rfl))) (by rfl)
      have HN : Hid (cfold (sb s) 4294967295 (i + 1) = csteps 8 (c ^^^ b)) := by show cbyte _ _ = _; rw [Hc.out, Hb.out]; rfl
      generalize hy : c ^^^ b = y at *
      clear hy Hb hcl
      go_wp2
      go_loopw [3, 5] (fun u3 u5 wr2 => ∃ k : Nat, k ≤ 8 ∧ u5 = .int .i64 k ∧ u3 = .int .u32 (csteps k y) ∧ wr2 = wr) (fun _ u5 _ => 8 - (intOf u5).toNat)
      case atStart => exact ⟨0, Nat.zero_le _, rfl, rfl, rfl⟩
      case round =>
        obtain ⟨k, hk, rfl, rfl, rfl⟩ := hrel
        by_cases hk8 : k < 8
        · obtain ⟨q1, q2⟩ := k8_nums k hk8
          have hz := csteps_lt k hxl
          have HZ : Hid (csteps (k + 1) y = cstep (csteps k y)) := csteps_succ k y
          generalize csteps k y = z at *
          obtain ⟨n1, ⟨n2, n3, n4⟩ | ⟨n2, n3, n4⟩⟩ := st_nums z hz
          · go_wp2
            go_roundw
            case rel => exact ⟨k + 1, hk8, by push_cast; rfl, by rw [HZ.out], by first | rfl | trivial⟩
            case measure => (simp [intOf]; omega)
          · go_wp2
            go_roundw
            case rel => exact ⟨k + 1, hk8, by push_cast; rfl, by rw [HZ.out], by first | rfl | trivial⟩
            case measure => (simp [intOf]; omega)
        · have HK : Hid (k = 8) := by show _ = _; omega
          have q1 : ¬ (k : Int) < 8 := by omega
          go_wp2
          go_roundw
          case rel => exact ⟨i + 1, hlt, by push_cast; rfl, by rw [HN.out, HK.out], by first | rfl | trivial⟩
          case measure => (simp [intOf]; omega)
    · obtain rfl : i = S := by omega
      have hnl : ¬ (i : Int) < (i : Int) := by omega
      obtain ⟨c, Hc⟩ : ∃ c, Hid (cfold (sb s) 4294967295 i = c) := ⟨_, rfl⟩
      have hcl : c < 4294967296 := by rw [← Hc.out]; exact cfold_lt (sb_lt s) (by omega) i
      have hx : bits .xor .u32 (c : Int) 4294967295 = ((c ^^^ 4294967295 : Nat) : Int) := u32_xor_nat c 4294967295 hcl (by omega)
      have HR : Hid (crcN s = c ^^^ 4294967295) := by show crcN s = _; unfold crcN; rw [HS.out, Hc.out]
      rw [Hc.out]
      generalize c ^^^ 4294967295 = y at *
      go_wp2
      go_ret
      exact ⟨by rw [HR.out]; rfl, Ext.refl _⟩
set_option maxHeartbeats 1000000 in
theorem rfour_any (n : Nat) (hn : n < 4294967296) (w : World) :
    Calls Try.prog 35 #[.int .u32 n] w fun e w' => e = .returned (.string (be4 n)) ∧ Ext w w' := by
  have hc := conv4 w (fun i => n / 256 ^ (3 - i) % 256) 5 4 (x0 := (n : Int) / 16777216) (x1 := (n : Int) / 65536 % 256) (x2 := (n : Int) / 256 % 256) (x3 := (n : Int) % 256) (by show _ = ((n / 16777216 % 256 : Nat) : Int); omega) (by show _ = ((n / 65536 % 256 : Nat) : Int); omega) (by show _ = ((n / 256 % 256 : Nat) : Int); omega) (by show _ = ((n / 1 % 256 : Nat) : Int); omega)
  have HT : Hid (mkS (fun i => n / 256 ^ (3 - i) % 256) 4 = be4 n) := rfl
  generalize mkS (fun i => n / 256 ^ (3 - i) % 256) 4 = x at *
  go_enter Try.func35, Try.ntmps35
  go_wp2
  go_ret
  exact ⟨by rw [← HT.out]; rfl, (Ext.refl _).alloc _⟩
set_option maxHeartbeats 1000000 in
theorem rframe_bad (s : ByteArray) (h1 : 4096 < s.size) (w : World) :
    Calls Try.prog 27 #[.string s] w fun e w' => e = .returned (.tuple #[.string ⟨#[]⟩, .int .i64 2]) ∧ Ext w w' := by
  have h2 : (4096 : Int) < (s.size : Int) := by omega
  go_enter Try.func27, Try.ntmps27
  go_wp2
  refine bodyPost_ret (v := .tuple #[.string ⟨#[]⟩, .int .i64 2]) (by simp [results, Try.results27, go_sem]) rfl ⟨rfl, Ext.refl _⟩
set_option maxHeartbeats 1000000 in
theorem rframe_good (s : ByteArray) (h1 : s.size ≤ 4096) (w : World) :
    Calls Try.prog 27 #[.string s] w fun e w' => e = .returned (.tuple #[.string (frm s), .int .i64 0]) ∧ Ext w w' := by
  have h2 : ¬ (4096 : Int) < (s.size : Int) := by omega
  have hw : IntKind.u32.wrap (s.size : Int) = (s.size : Int) := by rw [IntKind.wrap_u32']; omega
  have H1 : Hid (∀ W, Calls Try.prog 35 #[.int .u32 (s.size : Int)] W fun e w' => e = .returned (.string (be4 s.size)) ∧ Ext W w') := fun W => rfour_any _ (by omega) W
  have H2 : Hid (∀ W, Calls Try.prog 36 #[.string (be4 s.size ++ s)] W fun e w' => e = .returned (.int .u32 (crcN (be4 s.size ++ s))) ∧ Ext W w') := fun W => rsum_any _ (by rw [ByteArray.size_append, be4_size]; omega) W
  have H3 : Hid (∀ W, Calls Try.prog 35 #[.int .u32 (crcN (be4 s.size ++ s) : Int)] W fun e w' => e = .returned (.string (be4 (crcN (be4 s.size ++ s)))) ∧ Ext W w') := fun W => rfour_any _ (crcN_lt _) W
  have HF : Hid (frm s = (be4 s.size ++ be4 (crcN (be4 s.size ++ s))) ++ s) := rfl
  have z1 := be4_size s.size
  have z2 := be4_size (crcN (be4 s.size ++ s))
  generalize crcN (be4 s.size ++ s) = c at *
  generalize be4 s.size = x at *
  generalize be4 c = y at *
  have hb1 : ¬ 9223372036854775807 < x.size + s.size := by omega
  have hb2 : ¬ 9223372036854775807 < x.size + y.size := by omega
  have hb3 : ¬ 9223372036854775807 < x.size + y.size + s.size := by omega
  clear z1 z2
  go_enter Try.func27, Try.ntmps27
  go_wp2_with fail
  refine (H1.out _).mono ?_
  rintro e w1 ⟨rfl, HX⟩
  have HE1 : Hid (Ext w w1) := HX
  clear HX
  go_wp2_with fail
  refine (H2.out _).mono ?_
  rintro e w2 ⟨rfl, HX⟩
  have HE2 : Hid (Ext w w2) := HE1.out.trans HX
  clear HX
  go_wp2_with fail
  refine (H3.out _).mono ?_
  rintro e w3 ⟨rfl, HX⟩
  have HE3 : Hid (Ext w w3) := HE2.out.trans HX
  clear HX
  go_wp2
  refine bodyPost_ret (v := .tuple #[.string (x ++ y ++ s), .int .i64 0]) (by simp [results, Try.results27, go_sem]) rfl ⟨by rw [HF.out], HE3.out⟩
end Go.Proofs.Ytbkdjpialjbhnaa

/-
  RecordFlips, called: true for every input; nothing old is turned.
-/
import Derived.Test.YtenkfbfiombpkaaRCut
import Derived.Deep.DeepCutAuto
namespace Go.Proofs.Ytenkfbfiombpkaa
open Go.RowKit
/-- Bytes B of which i side by side, from k on, are others by d. -/
def flP (B : Nat → Nat) (k d i : Nat) (j : Nat) : Nat := if k ≤ j ∧ j < k + i then B j ^^^ d / 256 ^ (j - k) % 256 else B j
theorem flP_zero (B : Nat → Nat) (k d j : Nat) : flP B k d 0 j = B j := if_neg (by omega)
theorem flP_at (B : Nat → Nat) (k d i : Nat) : flP B k d i (k + i) = B (k + i) := if_neg (by omega)
theorem flP_step (B : Nat → Nat) (k d i : Nat) : put (flP B k d i) (k + i) (B (k + i) ^^^ d / 256 ^ i % 256) = flP B k d (i + 1) := by
  funext j
  by_cases e : j = k + i
  · subst e
    rw [put_same]
    unfold flP
    rw [if_pos (by omega), Nat.add_sub_cancel_left]
  · rw [put_other _ _ e]
    unfold flP
    by_cases h : k ≤ j ∧ j < k + i
    · rw [if_pos h, if_pos (by omega)]
    · rw [if_neg h, if_neg (by omega)]
theorem flP_lt {B : Nat → Nat} (hB : ∀ i, B i < 256) (k d i j : Nat) : flP B k d i j < 256 := by
  unfold flP
  split
  · have h1 : B j < 2 ^ 8 := hB j
    have h2 : d / 256 ^ (j - k) % 256 < 2 ^ 8 := Nat.mod_lt _ (by decide)
    exact Nat.xor_lt_two_pow h1 h2
  · exact hB j
/-- What is read then. -/
theorem flip_read (s : ByteArray) (d k : Nat) (hs : s.size ≤ 4096) (hd : d < 4294967296) (h0 : d ≠ 0) (hk : k = 4 ∨ (8 ≤ k ∧ k + 4 ≤ s.size + 8)) : nxt (mkS (flP (sb (frm s)) k d 4) (s.size + 8)) = (⟨#[]⟩, 0, 4) := by
  refine nxt_flip s _ d k hs hd h0 hk (mkS_len _ _) fun i hi => ?_
  rw [mkS_sb hi (flP_lt (sb_lt _) _ _ _ _)]
  unfold flP
  split
  · rfl
  · rw [Nat.xor_zero]
theorem rem3_nums (at_ : Int) (S : Nat) (hS : S ≤ 1000) (h4 : 4 ≤ S) : ∃ K : Nat, K + 4 ≤ S ∧ IntKind.i64.wrap ((S : Int) - 3) = (S : Int) - 3 ∧ IntKind.u64.wrap ((S : Int) - 3) = (S : Int) - 3 ∧ ((S : Int) - 3 == 0) = false ∧ ¬ (S : Int) - 3 = 0 ∧ (IntKind.u64.wrap at_).tmod ((S : Int) - 3) = (K : Int) ∧ IntKind.i64.wrap (K : Int) = (K : Int) ∧ IntKind.u64.wrap (K : Int) = (K : Int) ∧ IntKind.i64.wrap (8 + (K : Int)) = 8 + (K : Int) := by
  have h0 : 0 ≤ IntKind.u64.wrap at_ := by rw [IntKind.wrap_u64]; omega
  have e := Int.tmod_eq_emod_of_nonneg (b := (S : Int) - 3) h0
  have h1 := Int.emod_nonneg (IntKind.u64.wrap at_) (show (S : Int) - 3 ≠ 0 by omega)
  have h2 := Int.emod_lt_of_pos (IntKind.u64.wrap at_) (show (0 : Int) < (S : Int) - 3 by omega)
  generalize IntKind.u64.wrap at_ % ((S : Int) - 3) = r at *
  refine ⟨r.toNat, by omega, ?_, ?_, ?_, by omega, by omega, ?_, ?_, ?_⟩
  · rw [IntKind.wrap_i64]; omega
  · rw [IntKind.wrap_u64]; omega
  · simp; omega
  · rw [IntKind.wrap_i64]; omega
  · rw [IntKind.wrap_u64]; omega
  · rw [IntKind.wrap_i64]; omega
/-- The numbers of a round. -/
theorem fl_nums (k i Z : Nat) (hk : k + 4 ≤ Z) (hi : i < 4) (hZ : Z ≤ 1008) : IntKind.i64.wrap ((k : Int) + (i : Int)) = (k : Int) + (i : Int) ∧ (0 : Int) ≤ (k : Int) + (i : Int) ∧ (k : Int) + (i : Int) < (Z : Int) ∧ ((k : Int) + (i : Int)).toNat = k + i ∧ (i : Int) < 4 ∧ IntKind.i64.wrap ((i : Int) + 1) = (i : Int) + 1 ∧ IntKind.i64.wrap (8 * (i : Int)) = 8 * (i : Int) ∧ IntKind.u64.wrap (8 * (i : Int)) = 8 * (i : Int) := by
  refine ⟨?_, ?_, ?_, ?_, ?_, ?_, ?_, ?_⟩ <;> (try rw [IntKind.wrap_i64]) <;> (try rw [IntKind.wrap_u64]) <;> omega
theorem fl_shift (d i : Nat) : (d : Int) / 2 ^ (8 * i) % 256 = ((d / 256 ^ i % 256 : Nat) : Int) := by
  have h : (256 : Nat) ^ i = 2 ^ (8 * i) := by rw [show (256 : Nat) = 2 ^ 8 from rfl, ← Nat.pow_mul]
  rw [h, Int.natCast_emod, Int.natCast_ediv, Int.natCast_pow]
  rfl
theorem fl_meas {i : Nat} (h : i < 4) : 4 - (intOf (.int .i64 ((i : Int) + 1))).toNat < 4 - (intOf (.int .i64 (i : Int))).toNat := by simp [intOf]; omega
set_option maxHeartbeats 4000000 in
set_option maxRecDepth 10000 in
theorem recordFlips_any (s : ByteArray) (hs : s.size ≤ maxLen) (at_ : Int) (d : Nat) (hd : d < 4294967296) (w : World) :
    Calls Try.prog 7 #[.string s, .int .i64 at_, .int .u32 (d : Int)] w fun e w' => e = .returned (.bool true) ∧ Ext w w' := by
  have HE0 : Hid (Ext w w) := Ext.refl w
  unfold maxLen at hs
  by_cases h5 : 1000 < s.size
  · have h6 : (1000 : Int) < (s.size : Int) := by omega
    go_enter Try.func7, Try.ntmps7
    go_wp2_with fail
    refine (awake_any _).mono ?_
    rintro e w1 ⟨rfl, HX⟩
    have HEw1 : Hid (Ext w w1) := HE0.out.trans HX
    clear HX
    go_wp2
    go_ret
    exact ⟨rfl, HEw1.out⟩
  · have h6 : ¬ (1000 : Int) < (s.size : Int) := by omega
    by_cases hd0 : d = 0
    · subst hd0
      go_enter Try.func7, Try.ntmps7
      go_wp2_with fail
      refine (awake_any _).mono ?_
      rintro e w1 ⟨rfl, HX⟩
      have HEw1 : Hid (Ext w w1) := HE0.out.trans HX
      clear HX
      go_wp2
      go_ret
      exact ⟨rfl, HEw1.out⟩
    · have hd1 : ¬ (d : Int) = 0 := by omega
      have hd2 : ((d : Int) == 0) = false := by simp; omega
      have H1 : Hid (∀ W, Calls Try.prog 9 #[.string s] W fun e w' => e = .returned (.tuple #[.string (frm s), .int .i64 0]) ∧ Ext W w') := fun W => cframe_good s (by omega) W
      obtain ⟨Z, HZ⟩ : ∃ Z, Hid (s.size + 8 = Z) := ⟨_, rfl⟩
      have hFz : (frm s).size = Z := by rw [frm_size]; exact HZ.out
      have wz : IntKind.i64.wrap ((s.size : Int) + 8) = (Z : Int) := by have := HZ.out; rw [IntKind.wrap_i64]; omega
      have hZ : Z ≤ 1008 := by have := HZ.out; omega
      have HRd : Hid (∀ k, (k = 4 ∨ (8 ≤ k ∧ k + 4 ≤ Z)) → nxt (mkS (flP (sb (frm s)) k d 4) Z) = (⟨#[]⟩, 0, 4)) := fun k hk => by
        rw [← HZ.out] at hk ⊢
        exact flip_read s d k (by omega) hd hd0 hk
      obtain ⟨F, HF⟩ : ∃ F, Hid (frm s = F) := ⟨_, rfl⟩
      rw [HF.out] at H1 hFz HRd
      go_enter Try.func7, Try.ntmps7
      go_wp2_with fail
      refine (H1.out _).mono ?_
      rintro e w1 ⟨rfl, HX⟩
      have HEw1 : Hid (Ext w w1) := HE0.out.trans HX
      clear HX
      have hsm : F.size ≤ maxLen := by rw [hFz]; unfold maxLen; omega
      have hcv := Lib.run_convert_string_bytes w1 9 44 5 F Try.underlying9 Try.underlying44 Try.underlying5
      have HX0 : Hid (Ext w (Lib.bytesWorld w1 5 F)) := HEw1.out.trans (bytes_ext _ _ _)
      have HO0 := bytes_own w1 5 F hsm
      obtain ⟨X, hX⟩ : ∃ X, Lib.bytesWorld w1 5 F = X := ⟨_, rfl⟩
      obtain ⟨c0, hc0⟩ : ∃ c0, grownCap w1 F.size 0 5 = c0 := ⟨_, rfl⟩
      rw [hX] at hcv HX0 HO0
      rw [hc0] at hcv HO0
      rw [hFz] at hcv HO0
      obtain ⟨g', cap', e, hb, hg, hcn, hm, hc, hf⟩ := HO0
      injection e with e0 _ e2
      injection e0 with e0
      injection e0 with e0 _ _
      have HT0 : Hid (TabN X w1.heap.size .u8 Z (sb F)) := by
        show TabN _ _ _ _ _
        rw [← e0] at hg hc hf
        exact ⟨hg, fun k hk2 => ⟨hc k hk2, (hf k (by omega)).2⟩⟩
      have HG : SizeLe w w1.heap.size := HEw1.out.size
      clear hX hc0 e0 e2 hb hg hcn hm hc hf
      generalize hgg : w1.heap.size = g at *
      clear hgg
      go_upto_region 8 with fail
      go_cut [43] (fun u43 wx => ∃ b : Bool, u43 = .bool b ∧ (b = true → 4 ≤ s.size) ∧ wx = X)
      case first =>
        by_cases h4 : 4 ≤ s.size
        · have q4 : (4 : Int) ≤ (s.size : Int) := by omega
          go_wp2_with fail
          all_goals (go_meet; exact ⟨_, rfl, fun _ => h4, rfl⟩)
        · have q4 : ¬ (4 : Int) ≤ (s.size : Int) := by omega
          go_wp2_with fail
          all_goals (go_meet; exact ⟨_, rfl, fun q => (by cases q), rfl⟩)
      case rest =>
        obtain ⟨b, rfl, hb4, rfl⟩ := hcut
        go_upto_if 43 with fail
        go_cut [10] (fun u10 wx => ∃ k : Nat, u10 = .int .i64 k ∧ Hid (k = 4 ∨ (8 ≤ k ∧ k + 4 ≤ Z)) ∧ wx = wc)
        case first =>
          cases b with
          | true =>
            obtain ⟨K, k0, k1, k2, k3, k4, k5, k6, k7, k8⟩ := rem3_nums at_ s.size (by omega) (hb4 rfl)
            have HKz : Hid (8 + K = 4 ∨ (8 ≤ 8 + K ∧ 8 + K + 4 ≤ Z)) := by have := HZ.out; show _ ∨ _; omega
            go_wp2_with fail
            go_meet
            case rel => exact ⟨8 + K, by push_cast; rfl, HKz, rfl⟩
          | false =>
            go_wp2_with fail
            go_meet
            case rel => exact ⟨4, rfl, .inl rfl, rfl⟩
        case rest =>
          obtain ⟨k, rfl, HK, rfl⟩ := hcut
          have hkz : k + 4 ≤ Z := by have := HK.out; have := HZ.out; omega
          have HT1 : Hid (TabN wc g .u8 Z (flP (sb F) k d 0)) := by
            show TabN _ _ _ _ _
            rw [show flP (sb F) k d 0 = sb F from funext fun j => flP_zero _ _ _ _]
            exact HT0.out
          clear HT0 hcv hb4
          go_wp2
          go_loopw [11] (fun u11 wr => ∃ i : Nat, i ≤ 4 ∧ u11 = .int .i64 i ∧ TabN wr g .u8 Z (flP (sb F) k d i) ∧ Hid (Ext w wr)) (fun u11 _ => 4 - (intOf u11).toNat)
          case atStart => exact ⟨0, by omega, rfl, HT1.out, HX0⟩
          case round =>
            obtain ⟨i, hi4, rfl, HT, HE⟩ := hrel
            clear HT1 HX0
            by_cases hlt : i < 4
            · obtain ⟨a1, a2, a3, a4, a5, a6, a7, a8⟩ := fl_nums k i Z hkz hlt hZ
              obtain ⟨gp, gfz⟩ := HT.2 (k + i) (by omega)
              rw [flP_at] at gp
              have hb := sb_lt F (k + i)
              have HST : Hid (TabN (wr.setCell ⟨g, k + i, none⟩ (.int .u8 ((sb F (k + i) ^^^ d / 256 ^ i % 256 : Nat) : Int))) g .u8 Z (flP (sb F) k d (i + 1))) := by
                have h := HT.set (k + i) (sb F (k + i) ^^^ d / 256 ^ i % 256)
                rw [flP_step] at h
                exact h
              have hxx : bits .xor .u8 (sb F (k + i) : Int) ((d / 256 ^ i % 256 : Nat) : Int) = ((sb F (k + i) ^^^ d / 256 ^ i % 256 : Nat) : Int) := u8_xor_nat _ _ hb (Nat.mod_lt _ (by decide))
              have hsh := fl_shift d i
              clear HT
              generalize sb F (k + i) ^^^ d / 256 ^ i % 256 = r at HST hxx
              generalize d / 256 ^ i % 256 = y at hxx hsh
              generalize sb F (k + i) = bv at gp hxx
              go_wp2_with fail
              exact ⟨⟨i + 1, hlt, by push_cast; rfl, HST.out, Ext.st HG HE.out⟩, fl_meas hlt⟩
            · have hiE : Hid (i = 4) := (by omega : i = 4)
              have hnl : ¬ (i : Int) < 4 := by omega
              have hcs := run_lst_string Try.prog 5 44 9 Try.underlying44 Try.underlying5 Try.underlying9 wr (flP (sb F) k d i) Z (.slice (some ⟨g, 0, none⟩) Z c0) (HT.slice (by unfold maxLen; omega)) (by omega)
              have HN : Hid (∀ W, Calls Try.prog 13 #[.string (mkS (flP (sb F) k d i) Z)] W fun e w' => e = .returned (.tuple #[.string ⟨#[]⟩, .int .i64 ((0 : Nat) : Int), .int .i64 4]) ∧ Ext W w') := fun W => cnext_of (by rw [mkS_len]; omega) (by rw [hiE.out]; exact HRd.out k HK.out) W
              generalize mkS (flP (sb F) k d i) Z = gg at *
              clear HT
              go_wp2_with fail
              refine (HN.out _).mono ?_
              rintro e w3 ⟨rfl, HX⟩
              have HEw3 : Hid (Ext w w3) := HE.out.trans HX
              clear HX
              go_wp2_with fail
              refine (awake_any _).mono ?_
              rintro e w4 ⟨rfl, HX⟩
              have HEw4 : Hid (Ext w w4) := HEw3.out.trans HX
              clear HX
              go_wp2
              go_ret
              exact ⟨rfl, HEw4.out⟩
end Go.Proofs.Ytenkfbfiombpkaa

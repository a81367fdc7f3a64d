/-
  chacha.setWords, called: the words of a slice that held 0.
-/
import Derived.Test.YtdafckjcggaflaaDoorGl
import Derived.Deep.QuietTactic
import Derived.BigQuiet
namespace Go.Proofs.YtdafckjcggaflaaDoor
open Go.RowKit
/-- The lowest k bytes of a word. -/
def wpart (b : Nat → Nat) (p : Nat) : Nat → Nat
  | 0 => 0
  | k + 1 => wpart b p k + b (p + k) * 2 ^ (8 * k)
theorem wpart_lt {b : Nat → Nat} (h : ∀ i, b i < 256) (p k : Nat) : wpart b p k < 2 ^ (8 * k) := by
  induction k with
  | zero => exact Nat.one_pos
  | succ k ih =>
    have h1 := h (p + k)
    have e : (2 : Nat) ^ (8 * (k + 1)) = 256 * 2 ^ (8 * k) := by rw [show 8 * (k + 1) = 8 + 8 * k by omega, Nat.pow_add]
    unfold wpart
    rw [e]
    generalize 2 ^ (8 * k) = z at *
    have : b (p + k) * z ≤ 255 * z := Nat.mul_le_mul_right _ (by omega)
    omega
theorem wpart_four (b : Nat → Nat) (p : Nat) : wpart b p 4 = word b p := by
  simp only [wpart, word, Nat.add_zero]
  omega
/-- The words made: i whole ones and k bytes of the next. -/
def sw (T : Nat → Nat) (b : Nat → Nat) (o i k : Nat) (j : Nat) : Nat := if j < o then T j else if j < o + i then word b (4 * (j - o)) else if j = o + i then wpart b (4 * i) k else T j
theorem sw_step (T b : Nat → Nat) (o i k : Nat) : put (sw T b o i k) (o + i) (wpart b (4 * i) (k + 1)) = sw T b o i (k + 1) := by
  funext j
  unfold put sw
  by_cases h1 : j < o
  · rw [if_neg (by omega), if_pos h1, if_pos h1]
  by_cases h2 : j < o + i
  · rw [if_neg (by omega), if_neg h1, if_pos h2, if_neg h1, if_pos h2]
  by_cases h3 : j = o + i
  · rw [if_pos h3, if_neg h1, if_neg h2, if_pos h3]
  · rw [if_neg h3, if_neg h1, if_neg h2, if_neg h3, if_neg h1, if_neg h2, if_neg h3]
theorem sw_next (T b : Nat → Nat) (o i : Nat) (hz : T (o + (i + 1)) = 0) : sw T b o i 4 = sw T b o (i + 1) 0 := by
  funext j
  unfold sw
  by_cases h1 : j < o
  · rw [if_pos h1, if_pos h1]
  by_cases h2 : j < o + i
  · rw [if_neg h1, if_pos h2, if_neg h1, if_pos (by omega)]
  by_cases h3 : j = o + i
  · rw [if_neg h1, if_neg h2, if_pos h3, if_neg h1, if_pos (by omega), wpart_four, h3, show o + i - o = i by omega]
  by_cases h4 : j = o + (i + 1)
  · rw [if_neg h1, if_neg h2, if_neg h3, if_neg h1, if_neg (by omega), if_pos h4, h4, hz]; rfl
  · rw [if_neg h1, if_neg h2, if_neg h3, if_neg h1, if_neg (by omega), if_neg h4]
theorem sw_zero (T b : Nat → Nat) (o : Nat) (hz : T o = 0) : sw T b o 0 0 = T := by
  funext j
  unfold sw
  by_cases h1 : j < o
  · rw [if_pos h1]
  by_cases h3 : j = o
  · rw [if_neg h1, if_neg (by omega), if_pos (by omega), h3, hz]; rfl
  · rw [if_neg h1, if_neg (by omega), if_neg (by omega)]
theorem sw_at (T b : Nat → Nat) (o i k : Nat) : sw T b o i k (o + i) = wpart b (4 * i) k := by
  unfold sw
  rw [if_neg (by omega), if_neg (by omega), if_pos rfl]
theorem or_num (b : Nat → Nat) (hb : ∀ i, b i < 256) (p k : Nat) (hk : k < 4) : ∃ v0 v1 e y : Nat, wpart b p k = v0 ∧ wpart b p (k + 1) = v1 ∧ e = 8 * k ∧ (b (p + k) : Int) % 4294967296 * 2 ^ (min e 32) % 4294967296 = (y : Int) ∧ bits BinOp.or IntKind.u32 (v0 : Int) (y : Int) = (v1 : Int) := by
  have h1 := wpart_lt hb p k
  have h2 := wpart_lt hb p (k + 1)
  have h3 : (2 : Nat) ^ (8 * (k + 1)) ≤ 2 ^ 32 := Nat.pow_le_pow_right (by decide) (by omega)
  have h5 : wpart b p (k + 1) = wpart b p k + b (p + k) * 2 ^ (8 * k) := rfl
  have h4 : b (p + k) * 2 ^ (8 * k) < 2 ^ 32 := by omega
  refine ⟨_, _, _, b (p + k) * 2 ^ (8 * k), rfl, rfl, rfl, ?_, ?_⟩
  · have h6 := hb (p + k)
    rw [Nat.min_eq_left (by omega : 8 * k ≤ 32), show ((b (p + k) : Int) % 4294967296) = (b (p + k) : Int) by omega, show (2 : Int) ^ (8 * k) = ((2 ^ (8 * k) : Nat) : Int) from (Int.natCast_pow 2 (8 * k)).symm, ← Int.natCast_mul]
    omega
  · rw [u32_or_nat _ _ (by omega) (by omega), join_low _ _ _ h1]
    rfl
set_option maxHeartbeats 1000000 in
theorem setw_any (T : Nat → Nat) (m o n c : Nat) (s : ByteArray) (hs : 4 * n ≤ s.size) (ho : o + n ≤ 16) (hz : ∀ i, i ≤ n → T (o + i) = 0) (w : World) (hR : RowH w m 36 .u32 16 T) :
    Calls Tryd.prog 20 #[.slice (some ⟨m, o, none⟩) n c, .string s] w fun e w' => e = .returned (.tuple #[]) ∧ RowH w' m 36 .u32 16 (sw T (sb s) o n 0) ∧ Below m w w' := by
  have HZ : Hid (∀ i, i ≤ n → T (o + i) = 0) := hz
  have H0 : Hid (RowH w m 36 .u32 16 (sw T (sb s) o 0 0) ∧ Below m w w) := ⟨by rw [sw_zero T _ _ (by have := hz 0 (Nat.zero_le _); rwa [Nat.add_zero] at this)]; exact hR, Below.refl _ _⟩
  clear hR hz
  go_enter Tryd.func20, Tryd.ntmps20
  go_wp2_with fail
  go_loopw [8] (fun u8 wr => ∃ (i : Nat), i ≤ n ∧ u8 = .int .i64 i ∧ Hid (RowH wr m 36 .u32 16 (sw T (sb s) o i 0) ∧ Below m w wr)) (fun u8 _ => n - (intOf u8).toNat)
  case atStart => exact ⟨0, by omega, rfl, H0⟩
  case round =>
    clear H0
    obtain ⟨i, hin, rfl, HR⟩ := hrel
    by_cases hil : i < n
    · have hi1 : (i : Int) < (n : Int) := by omega
      have hi0 : (0 : Int) ≤ (i : Int) := by omega
      go_wp2_with fail
      go_loopw [11] (fun u11 wr => ∃ (k : Nat), k ≤ 4 ∧ u11 = .int .i64 k ∧ Hid (RowH wr m 36 .u32 16 (sw T (sb s) o i k) ∧ Below m w wr)) (fun u11 _ => 4 - (intOf u11).toNat)
      case atStart => exact ⟨0, by omega, rfl, HR⟩
      case round =>
        clear HR
        obtain ⟨k, hk4, rfl, HR⟩ := hrel
        by_cases hkl : k < 4
        · have hk1 : (k : Int) < 4 := by omega
          obtain ⟨v0, v1, e, y, e0, e1, ee, ey, eo⟩ := or_num (sb s) (sb_lt s) (4 * i) k hkl
          obtain ⟨t, ht⟩ : ∃ t, 4 * i + k = t := ⟨_, rfl⟩
          rw [ht] at ey
          have htl : t < s.size := by omega
          have m1 : IntKind.i64.wrap (8 * (k : Int)) = (e : Int) := by rw [IntKind.wrap_i64]; omega
          have m2 : IntKind.i64.wrap (4 * (i : Int)) = 4 * (i : Int) := by rw [IntKind.wrap_i64]; omega
          have m3 : 4 * (i : Int) + (k : Int) = (t : Int) := by omega
          have m4 : IntKind.i64.wrap (t : Int) = (t : Int) := by rw [IntKind.wrap_i64]; omega
          have t0 : (0 : Int) ≤ (t : Int) := by omega
          have t1 : (t : Int) < (s.size : Int) := by omega
          have e0' : (0 : Int) ≤ (e : Int) := by omega
          obtain ⟨g, f⟩ := HR.out.1.tab.2 (o + i) (by omega)
          rw [sw_at, e0] at g
          rw [← sb_at s htl] at ey
          have HS : Hid (∀ W, RowH W m 36 .u32 16 (sw T (sb s) o i k) → RowH (W.setCell ⟨m, o + i, none⟩ (.int .u32 (v1 : Int))) m 36 .u32 16 (sw T (sb s) o i (k + 1))) := fun W h => by
            have h2 := h.set (o + i) v1
            rw [← e1, sw_step] at h2
            rw [← e1]
            exact h2
          clear e0 e1 ee ht
          go_wp2_with fail
          go_region
          have HR2 : Hid (RowH (wr.setCell ⟨m, o + i, none⟩ (.int .u32 (v1 : Int))).drew m 36 .u32 16 (sw T (sb s) o i (k + 1)) ∧ Below m w (wr.setCell ⟨m, o + i, none⟩ (.int .u32 (v1 : Int))).drew) := ⟨(HS.out _ HR.out.1).ext (Ext.drew (Ext.refl _)), (Below.setCell HR.out.2 (p := ⟨m, o + i, none⟩) (Nat.le_refl _) _).drew⟩
          clear HR HS ey eo
          go_wp2
          go_roundw
          case rel => exact ⟨k + 1, hkl, by go_num, HR2⟩
          case measure => simp [intOf]; omega
        · have HK4 : Hid (k = 4) := (by omega : k = 4)
          have hnk : ¬ (k : Int) < 4 := by omega
          rw [HK4.out, sw_next T _ _ _ (HZ.out (i + 1) hil)] at HR
          go_wp2
          go_roundw
          case rel => exact ⟨i + 1, hil, by go_num, HR⟩
          case measure => simp [intOf]; omega
    · have HIn : Hid (i = n) := (by omega : i = n)
      have hni : ¬ (i : Int) < (n : Int) := by omega
      rw [HIn.out] at HR
      go_wp2
      go_end0
      exact ⟨rfl, HR.out⟩
end Go.Proofs.YtdafckjcggaflaaDoor

/-
  wire's small functions: numberText, textNumber, readLength, commandFields, wordFields, called; nothing old is turned.
-/
import Derived.Test.YthdmecoeghnifaaRefD
import Derived.Laws.EntriesVeiled
namespace Go.Proofs.Ythdmecoeghnifaa
open Go.RowKit
set_option maxHeartbeats 400000 in
theorem wone_any (n : Int) (w : World) :
    Calls Try.prog 46 #[.int .i64 n] w fun e w' => e = .returned (.string (oneB n)) ∧ Ext w w' := by
  have hc := conv1 w (fun _ => (n % 256).toNat) 5 1 (x0 := n % 256) (by show _ = (((n % 256).toNat : Nat) : Int); omega)
  go_enter Try.func46, Try.ntmps46
  go_wp2
  go_ret
  exact ⟨rfl, (Ext.refl _).alloc _⟩
/-- The number of a byte; -1 where there is none. -/
def tnum (s : ByteArray) : Int := if s.size = 1 then (sb s 0 : Int) else -1
set_option maxHeartbeats 400000 in
theorem wtnum_any (s : ByteArray) (w : World) :
    Calls Try.prog 48 #[.string s] w fun e w' => e = .returned (.int .i64 (tnum s)) ∧ Ext w w' := by
  obtain ⟨r, HR⟩ : ∃ r, Hid (tnum s = r) := ⟨_, rfl⟩
  rw [HR.out]
  by_cases h : s.size = 1
  · have e0 := sb_at s (i := 0) (by omega)
    have HQ : Hid ((sb s 0 : Int) = r) := by rw [← HR.out]; unfold tnum; rw [if_pos h]; exact rfl
    have hw : IntKind.i64.wrap ((sb s 0 : Nat) : Int) = ((sb s 0 : Nat) : Int) := by have := sb_lt s 0; rw [IntKind.wrap_i64]; omega
    generalize sb s 0 = b at *
    go_enter Try.func48, Try.ntmps48
    go_wp2
    go_ret
    exact ⟨by rw [← HQ.out]; rfl, Ext.refl _⟩
  · have h1 : ¬ (s.size : Int) = 1 := by omega
    have HQ : Hid (r = -1) := by show _ = _; rw [← HR.out]; unfold tnum; rw [if_neg h]
    go_enter Try.func48, Try.ntmps48
    go_wp2
    go_ret
    exact ⟨by rw [HQ.out]; rfl, Ext.refl _⟩
set_option maxHeartbeats 400000 in
theorem wcf_any (w : World) :
    Calls Try.prog 32 #[] w fun e w' => e = .returned (.agg #[.int .i64 4, .func (.func 45) #[] #[], .func (.func 47) #[] #[], .func (.func 49) #[] #[]]) ∧ Ext w w' := by
  go_enter Try.func32, Try.ntmps32
  go_wp2
  refine bodyPost_ret (v := .agg #[.int .i64 4, .func (.func 45) #[] #[], .func (.func 47) #[] #[], .func (.func 49) #[] #[]]) (by simp [results, Try.results32, go_sem]) rfl ⟨rfl, (Ext.refl _).alloc _⟩
set_option maxHeartbeats 400000 in
theorem wwf_any (w : World) :
    Calls Try.prog 37 #[] w fun e w' => e = .returned (.agg #[.int .i64 5, .func (.func 50) #[] #[], .func (.func 51) #[] #[], .func (.func 52) #[] #[]]) ∧ Ext w w' := by
  go_enter Try.func37, Try.ntmps37
  go_wp2
  refine bodyPost_ret (v := .agg #[.int .i64 5, .func (.func 50) #[] #[], .func (.func 51) #[] #[], .func (.func 52) #[] #[]]) (by simp [results, Try.results37, go_sem]) rfl ⟨rfl, (Ext.refl _).alloc _⟩
/-- A round of readLength. -/
theorem rl_step (n b : Nat) (hn : n < 16777216) (hb : b < 256) : bits .or .u32 (((n * 256 : Nat) : Int)) (b : Int) = ((n * 256 + b : Nat) : Int) := by
  rw [u32_or_nat _ _ (by omega) (by omega), nat_join 8 _ _ (by omega) (by omega)]
/-- The number of the first i bytes of four. -/
def pre4 (s : ByteArray) : Nat → Nat
  | 0 => 0
  | i + 1 => pre4 s i * 256 + sb s i
theorem pre4_lt (s : ByteArray) : ∀ i, pre4 s i < 256 ^ i
  | 0 => by show 0 < 1; decide
  | i + 1 => by
    have := pre4_lt s i
    have h := sb_lt s i
    show pre4 s i * 256 + sb s i < _
    rw [Nat.pow_succ]
    omega
theorem pre4_num (s : ByteArray) : pre4 s 4 = num4 s 0 := by
  unfold num4
  show (((0 * 256 + sb s 0) * 256 + sb s 1) * 256 + sb s 2) * 256 + sb s 3 = _
  simp only [Nat.zero_add]
  omega
set_option maxHeartbeats 400000 in
theorem wrl_any (s : ByteArray) (hs : 4 ≤ s.size) (w : World) :
    Calls Try.prog 30 #[.string s] w fun e w' => e = .returned (.int .u32 (num4 s 0 : Nat)) ∧ w' = w := by
  have HP : Hid (pre4 s 4 = num4 s 0) := pre4_num s
  go_enter Try.func30, Try.ntmps30
  go_wp2
  go_loopw [3, 5] (fun u3 u5 wr => ∃ i : Nat, i ≤ 4 ∧ u5 = .int .i64 i ∧ u3 = .int .u32 (pre4 s i : Nat) ∧ wr = w) (fun _ u5 _ => 4 - (intOf u5).toNat)
  case atStart => exact ⟨0, Nat.zero_le _, rfl, rfl, rfl⟩
  case round =>
    obtain ⟨i, hi, rfl, rfl, rfl⟩ := hrel
    by_cases hlt : i < 4
    · have h1 : (i : Int) < 4 := by omega
      have h0 : (0 : Int) ≤ (i : Int) := by omega
      have h2 : (i : Int) < (s.size : Int) := by omega
      have hw : IntKind.i64.wrap ((i : Int) + 1) = (i : Int) + 1 := by rw [IntKind.wrap_i64]; omega
      have e0 := sb_at s (i := i) (by omega)
      have g0 := sb_lt s i
      have HN : Hid (pre4 s (i + 1) = pre4 s i * 256 + sb s i) := rfl
      have hn : pre4 s i < 16777216 := Nat.lt_of_lt_of_le (pre4_lt s i) (Nat.pow_le_pow_right (by decide) (show i ≤ 3 by omega))
      have HB : Hid _ := rl_step (pre4 s i) (sb s i) hn g0
      generalize sb s i = b at *
      generalize pre4 s i = n at *
      go_wp2
      refine ⟨⟨i + 1, hlt, by push_cast; rfl, ?_, trivial⟩, by simp [intOf]; omega⟩
      rw [HN.out, show (n : Int) * 256 = ((n * 256 : Nat) : Int) from by omega, HB.out]
    · obtain rfl : i = 4 := by omega
      go_wp2
      go_ret
      exact ⟨by rw [← HP.out]; rfl, rfl⟩
end Go.Proofs.Ythdmecoeghnifaa

/-
  Slices of texts; sandglassref16.Texts and Read, sandglassref01.Texts, called; nothing old is turned.
-/
import Derived.Test.YthdmecoeghnifaaRefA
import Derived.Deep.QuietTactic
import Derived.BigQuiet
namespace Go.Proofs.Ythdmecoeghnifaa
open Go.RowKit
/-- The slice v holds n texts L 0 .. . -/
abbrev LiesT (w : World) (v : Value) (n : Nat) (L : Nat → ByteArray) : Prop := Lies w v n 1 (fun k => .string (L k))
/-- The first n texts as a list. -/
def lsT (L : Nat → ByteArray) (n : Nat) : List ByteArray := (List.range n).map L
theorem lsT_succ (L : Nat → ByteArray) (n : Nat) : lsT L (n + 1) = lsT L n ++ [L n] := by simp [lsT, List.range_succ]
/-- Texts, one behind the other. -/
def txN (L : Nat → ByteArray) (n : Nat) : ByteArray := txs (lsT L n)
theorem txN_succ (L : Nat → ByteArray) (n : Nat) : txN L (n + 1) = txN L n ++ txt (L n) := by unfold txN; rw [lsT_succ, txs_snoc]
theorem txN_size (L : Nat → ByteArray) (n : Nat) : (txN L (n + 1)).size = (txN L n).size + ((L n).size + 4) := by rw [txN_succ, ByteArray.size_append, txt_size]
theorem txN_mono (L : Nat → ByteArray) {k n : Nat} (h : k ≤ n) : (txN L k).size ≤ (txN L n).size := by
  induction n with
  | zero => obtain rfl : k = 0 := by omega
            exact Nat.le_refl _
  | succ n ih =>
    by_cases e : k = n + 1
    · subst e; exact Nat.le_refl _
    · have := ih (by omega); rw [txN_size]; omega
theorem txN_len (L : Nat → ByteArray) (n : Nat) : n * 4 ≤ (txN L n).size := by
  induction n with
  | zero => omega
  | succ n ih => rw [txN_size]; omega
set_option maxHeartbeats 400000 in
theorem rtexts_any (v : Value) (n : Nat) (L : Nat → ByteArray) (hz : (txN L n).size ≤ 100000) (w : World) (hL : LiesT w v n L) :
    Calls Try.prog 14 #[v] w fun e w' => e = .returned (.string (txN L n)) ∧ Ext w w' := by
  obtain ⟨a, cap, rfl, hc⟩ := hL
  have hn : n ≤ 25000 := by have := txN_len L n; omega
  have HC : Hid (0 < n → ∃ b o, a = some ⟨b, o, none⟩ ∧ b < w.heap.size ∧ ∀ k, k < n * 1 → w.cell? ⟨b, o + k, none⟩ = some (.string (L k))) := hc
  have HZ : Hid (∀ k, k < n → (txN L k).size + ((L k).size + 4) ≤ 100000) := fun k hk => by
    have := txN_mono L (show k + 1 ≤ n from hk); rw [txN_size] at this; omega
  have HE0 : Hid (Ext w w) := Ext.refl w
  clear hc hz
  go_enter Try.func14, Try.ntmps14
  go_wp2
  go_loopw [3, 4] (fun u3 u4 wr => ∃ k : Nat, k ≤ n ∧ u4 = .int .i64 k ∧ u3 = .string (txN L k) ∧ Hid (Ext w wr)) (fun _ u4 _ => n - (intOf u4).toNat)
  case atStart => exact ⟨0, Nat.zero_le _, rfl, rfl, HE0⟩
  case round =>
    obtain ⟨k, hk, rfl, rfl, HE⟩ := hrel
    clear HE0
    by_cases hlt : k < n
    · obtain ⟨b, o, rfl, hb, hcell⟩ := HC.out (by omega)
      have hz := HZ.out k hlt
      have hb2 : ¬ 9223372036854775807 < (txN L k).size + (txt (L k)).size := by rw [txt_size]; omega
      have hx := later HE.out (hcell k (by omega))
      have h1 : (k : Int) < (n : Int) := by omega
      have h0 : (0 : Int) ≤ (k : Int) := by omega
      have hw : IntKind.i64.wrap ((k : Int) + 1) = (k : Int) + 1 := by rw [IntKind.wrap_i64]; omega
      go_wp2_with fail
      refine (rtext_any (L k) (by omega) _).mono ?_
      rintro e w1 ⟨rfl, HX⟩
      have HE1 : Hid (Ext w w1) := HE.out.trans HX
      clear HX
      go_wp2
      go_roundw
      case rel => exact ⟨k + 1, hlt, by push_cast; rfl, by rw [txN_succ], HE1⟩
      case measure => simp [intOf]; omega
    · obtain rfl : k = n := by omega
      have hnl : ¬ (k : Int) < (k : Int) := by omega
      go_wp2
      go_ret
      exact ⟨rfl, HE.out⟩
set_option maxHeartbeats 400000 in
theorem rsame_any (v u : Value) (n : Nat) (L : Nat → ByteArray) (hn : n ≤ 100000) (w : World) (hv : LiesT w v n L) (hu : LiesT w u n L) :
    Calls Try.prog 17 #[v, u] w fun e w' => e = .returned (.bool true) ∧ Ext w w' := by
  obtain ⟨a, ca, rfl, hv'⟩ := hv
  have HV : Hid (0 < n → ∃ b o, a = some ⟨b, o, none⟩ ∧ b < w.heap.size ∧ ∀ k, k < n * 1 → w.cell? ⟨b, o + k, none⟩ = some (.string (L k))) := hv'
  obtain ⟨c, cc, rfl, hu'⟩ := hu
  have HU : Hid (0 < n → ∃ b o, c = some ⟨b, o, none⟩ ∧ b < w.heap.size ∧ ∀ k, k < n * 1 → w.cell? ⟨b, o + k, none⟩ = some (.string (L k))) := hu'
  clear hv' hu'
  have HE0 : Hid (Ext w w) := Ext.refl w
  go_enter Try.func17, Try.ntmps17
  go_wp2
  go_loopw [5] (fun u5 wr => ∃ i : Nat, i ≤ n ∧ u5 = .int .i64 (i : Int) ∧ Hid (Ext w wr)) (fun u5 _ => n - (intOf u5).toNat)
  case atStart => exact ⟨0, Nat.zero_le _, rfl, HE0⟩
  case round =>
    obtain ⟨k, hk, rfl, HE⟩ := hrel
    clear HE0
    by_cases hlt : k < n
    · have h1 : (k : Int) < (n : Int) := by omega
      have h0 : (0 : Int) ≤ (k : Int) := by omega
      have hw : IntKind.i64.wrap ((k : Int) + 1) = (k : Int) + 1 := by rw [IntKind.wrap_i64]; omega
      obtain ⟨b, o, rfl, hb, hcell⟩ := HV.out (by omega)
      obtain ⟨b', o', rfl, hb', hcell'⟩ := HU.out (by omega)
      have hx := later HE.out (hcell k (by omega))
      have hy := later HE.out (hcell' k (by omega))
      clear hcell hcell'
      go_wp2_with fail
      go_quiet (fail)
      go_wp2
      go_roundw
      case rel => exact ⟨k + 1, hlt, by push_cast; rfl, HE.out.drewN _⟩
      case measure => simp [intOf]; omega
    · obtain rfl : k = n := by omega
      go_wp2
      go_ret
      exact ⟨rfl, HE.out⟩
end Go.Proofs.Ythdmecoeghnifaa

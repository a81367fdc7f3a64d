/-
  The document's comparisons of lists (sandglassref13.Same, sandglassref01.Nums), called at two lists that are alike: nothing old is turned.
-/
import Derived.Test.YtnaiccfdbapdpaaDoorRefShares
import Derived.Test.YtnaiccfdbapdpaaDoorEq5
import Derived.Deep.QuietTactic
import Derived.BigQuiet
namespace Go.Proofs.YtnaiccfdbapdpaaDoor
open Go.RowKit
/-- The cells of a list of shares: share i lies at P i, its words are F i. -/
def sc (P : Nat → Int) (F : Nat → Nat → Int) (k : Nat) : Value := if k % 5 = 0 then .int .i64 (P (k / 5)) else .int .u64 (F (k / 5) (k % 5 - 1))
theorem sc_at0 (P : Nat → Int) (F : Nat → Nat → Int) (i : Nat) : sc P F (i * 5) = .int .i64 (P i) := by
  unfold sc; rw [if_pos (by omega), show i * 5 / 5 = i from by omega]
theorem sc_at (P : Nat → Int) (F : Nat → Nat → Int) (i j : Nat) (h : j < 4) : sc P F (i * 5 + (j + 1)) = .int .u64 (F i j) := by
  unfold sc; rw [if_neg (by omega), show (i * 5 + (j + 1)) / 5 = i from by omega, show (i * 5 + (j + 1)) % 5 - 1 = j from by omega]
theorem Lies.share {w : World} {a : Option Addr} {n cap : Nat} {P : Nat → Int} {F : Nat → Nat → Int} (h : Lies w (.slice a n cap) n 5 (sc P F)) {i : Nat} (hi : i < n) :
    ∃ b o, a = some ⟨b, o, none⟩ ∧ b < w.heap.size ∧ w.cell? ⟨b, o + i * 5, none⟩ = some (.int .i64 (P i)) ∧ w.cell? ⟨b, o + i * 5 + 1, none⟩ = some (.int .u64 (F i 0)) ∧ w.cell? ⟨b, o + i * 5 + 2, none⟩ = some (.int .u64 (F i 1)) ∧ w.cell? ⟨b, o + i * 5 + 3, none⟩ = some (.int .u64 (F i 2)) ∧ w.cell? ⟨b, o + i * 5 + 4, none⟩ = some (.int .u64 (F i 3)) := by
  obtain ⟨a', cap', e, h⟩ := h
  cases e
  obtain ⟨b, o, ha, hb, hc⟩ := h (by omega)
  refine ⟨b, o, ha, hb, ?_, ?_, ?_, ?_, ?_⟩
  · have := hc (i * 5) (by omega); rwa [sc_at0] at this
  · have := hc (i * 5 + (0 + 1)) (by omega); rwa [sc_at P F i 0 (by omega), ← Nat.add_assoc] at this
  · have := hc (i * 5 + (1 + 1)) (by omega); rwa [sc_at P F i 1 (by omega), ← Nat.add_assoc] at this
  · have := hc (i * 5 + (2 + 1)) (by omega); rwa [sc_at P F i 2 (by omega), ← Nat.add_assoc] at this
  · have := hc (i * 5 + (3 + 1)) (by omega); rwa [sc_at P F i 3 (by omega), ← Nat.add_assoc] at this
attribute [local go_sem] run_eq49
set_option maxHeartbeats 4000000 in
set_option maxRecDepth 10000 in
theorem rsame_any (v u : Value) (n : Nat) (P : Nat → Int) (F : Nat → Nat → Int) (hn : n ≤ 1000) (w : World) (hv : Lies w v n 5 (sc P F)) (hu : Lies w u n 5 (sc P F)) :
    Calls Tryd.prog 11 #[v, u] w fun e w' => e = .returned (.bool true) ∧ Ext w w' := by
  obtain ⟨a, ca, rfl, hv'⟩ := hv
  have HV : Hid (Lies w (.slice a n ca) n 5 (sc P F)) := ⟨a, ca, rfl, hv'⟩
  clear hv'
  obtain ⟨c, cc, rfl, hu'⟩ := hu
  have HU : Hid (Lies w (.slice c n cc) n 5 (sc P F)) := ⟨c, cc, rfl, hu'⟩
  clear hu'
  have HE0 : Hid (Ext w w) := Ext.refl w
  go_enter Tryd.func11, Tryd.ntmps11
  go_wp2
  go_loopw [5] (fun u5 wr => ∃ i : Nat, i ≤ n ∧ u5 = .int .i64 (i : Int) ∧ Hid (Ext w wr)) (fun u5 _ => n - (intOf u5).toNat)
  case atStart => exact ⟨0, Nat.zero_le _, rfl, HE0⟩
  case round =>
    obtain ⟨i, hi, rfl, HE⟩ := hrel
    clear HE0
    by_cases hlt : i < n
    · have h1 : (i : Int) < (n : Int) := by omega
      have h0 : (0 : Int) ≤ (i : Int) := by omega
      have hw : IntKind.i64.wrap ((i : Int) + 1) = (i : Int) + 1 := by rw [IntKind.wrap_i64]; omega
      obtain ⟨b, o, rfl, hb, x0, x1, x2, x3, x4⟩ := (HV.out.ext HE.out).share hlt
      obtain ⟨b', o', rfl, hb', y0, y1, y2, y3, y4⟩ := (HU.out.ext HE.out).share hlt
      have h5 : eq4 (F i 0) (F i 1) (F i 2) (F i 3) (F i 0) (F i 1) (F i 2) (F i 3) = true := by simp [eq4]
      go_wp2_with fail
      go_quiet (fail)
      go_wp2
      go_roundw
      case rel => exact ⟨i + 1, hlt, by push_cast; rfl, HE.out.drewN _⟩
      case measure => simp [intOf]; omega
    · obtain rfl : i = n := by omega
      go_wp2
      go_ret
      exact ⟨rfl, HE.out⟩
attribute [local go_sem] run_eq4
set_option maxHeartbeats 4000000 in
set_option maxRecDepth 10000 in
theorem rnums_any (v u : Value) (n : Nat) (f : Nat → Nat → Int) (hn : n ≤ 1000) (w : World) (hv : Lies w v n 4 (nc f)) (hu : Lies w u n 4 (nc f)) :
    Calls Tryd.prog 16 #[v, u] w fun e w' => e = .returned (.bool true) ∧ Ext w w' := by
  obtain ⟨a, ca, rfl, hv'⟩ := hv
  have HV : Hid (Lies w (.slice a n ca) n 4 (nc f)) := ⟨a, ca, rfl, hv'⟩
  clear hv'
  obtain ⟨c, cc, rfl, hu'⟩ := hu
  have HU : Hid (Lies w (.slice c n cc) n 4 (nc f)) := ⟨c, cc, rfl, hu'⟩
  clear hu'
  have HE0 : Hid (Ext w w) := Ext.refl w
  go_enter Tryd.func16, Tryd.ntmps16
  go_wp2
  go_loopw [5] (fun u5 wr => ∃ i : Nat, i ≤ n ∧ u5 = .int .i64 (i : Int) ∧ Hid (Ext w wr)) (fun u5 _ => n - (intOf u5).toNat)
  case atStart => exact ⟨0, Nat.zero_le _, rfl, HE0⟩
  case round =>
    obtain ⟨i, hi, rfl, HE⟩ := hrel
    clear HE0
    by_cases hlt : i < n
    · have h1 : (i : Int) < (n : Int) := by omega
      have h0 : (0 : Int) ≤ (i : Int) := by omega
      have hw : IntKind.i64.wrap ((i : Int) + 1) = (i : Int) + 1 := by rw [IntKind.wrap_i64]; omega
      obtain ⟨b, o, rfl, hb, x0, x1, x2, x3⟩ := (HV.out.ext HE.out).num hlt
      obtain ⟨b', o', rfl, hb', y0, y1, y2, y3⟩ := (HU.out.ext HE.out).num hlt
      have h5 : eq4 (f i 0) (f i 1) (f i 2) (f i 3) (f i 0) (f i 1) (f i 2) (f i 3) = true := by simp [eq4]
      go_wp2_with fail
      go_quiet (fail)
      go_wp2
      go_roundw
      case rel => exact ⟨i + 1, hlt, by push_cast; rfl, HE.out.drewN _⟩
      case measure => simp [intOf]; omega
    · obtain rfl : i = n := by omega
      go_wp2
      go_ret
      exact ⟨rfl, HE.out⟩
end Go.Proofs.YtnaiccfdbapdpaaDoor

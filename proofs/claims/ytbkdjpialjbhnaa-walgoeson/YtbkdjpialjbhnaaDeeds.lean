/-
  Deeds in a slice; a log behind some of them; sandglasslaw19.few, called.
-/
import Derived.Test.YtbkdjpialjbhnaaLFace
namespace Go.Proofs.Ytbkdjpialjbhnaa
open Go.RowKit
/-- The slice v has n deeds: kind, text, sectors. -/
def ActsIs (w : World) (v : Value) (n : Nat) (k : Nat → Int) (x : Nat → ByteArray) (K : Nat → Nat) : Prop :=
  ∃ (a : Option Addr) (cap : Nat), v = .slice a n cap ∧ (0 < n → ∃ b o, a = some ⟨b, o, none⟩ ∧ b < w.heap.size ∧ ∀ j, j < n → w.cell? ⟨b, o + j * 3, none⟩ = some (.int .i64 (k j)) ∧ w.cell? ⟨b, o + j * 3 + 1, none⟩ = some (.string (x j)) ∧ w.cell? ⟨b, o + j * 3 + 2, none⟩ = some (.int .u64 (K j : Int)))
theorem ActsIs.ext {w w' : World} {v : Value} {n : Nat} {k : Nat → Int} {x : Nat → ByteArray} {K : Nat → Nat} (h : ActsIs w v n k x K) (hx : Ext w w') : ActsIs w' v n k x K := by
  obtain ⟨a, cap, hv, h⟩ := h
  refine ⟨a, cap, hv, fun hn => ?_⟩
  obtain ⟨b, o, ha, hb, hc⟩ := h hn
  exact ⟨b, o, ha, Nat.lt_of_lt_of_le hb hx.size, fun j hj => ⟨later hx (hc j hj).1, later hx (hc j hj).2.1, later hx (hc j hj).2.2⟩⟩
theorem ActsIs.get {w : World} {a : Option Addr} {cap n : Nat} {k : Nat → Int} {x : Nat → ByteArray} {K : Nat → Nat} (h : ActsIs w (.slice a n cap) n k x K) {j : Nat} (hj : j < n) :
    ∃ b o, a = some ⟨b, o, none⟩ ∧ b < w.heap.size ∧ w.cell? ⟨b, o + j * 3, none⟩ = some (.int .i64 (k j)) ∧ w.cell? ⟨b, o + j * 3 + 1, none⟩ = some (.string (x j)) ∧ w.cell? ⟨b, o + j * 3 + 2, none⟩ = some (.int .u64 (K j : Int)) := by
  obtain ⟨a', cap', hv, h⟩ := h
  injection hv with e1 e2 e3
  subst e1
  obtain ⟨b, o, ha, hb, hc⟩ := h (by omega)
  exact ⟨b, o, ha, hb, hc j hj⟩
/-- A log behind the first i deeds, none of which is a crash. -/
def wDn (k : Nat → Int) (x : Nat → ByteArray) : Nat → List ByteArray × Nat
  | 0 => ([], 0)
  | i + 1 => if k i = 1 then ((wDn k x i).1, (wDn k x i).1.length) else ((wApp (wDn k x i).1 (x i)).1, (wDn k x i).2)
theorem wDn_sync {k : Nat → Int} {x : Nat → ByteArray} {i : Nat} (h : k i = 1) : wDn k x (i + 1) = ((wDn k x i).1, (wDn k x i).1.length) := if_pos h
theorem wDn_app {k : Nat → Int} {x : Nat → ByteArray} {i : Nat} (h : ¬ k i = 1) : wDn k x (i + 1) = ((wApp (wDn k x i).1 (x i)).1, (wDn k x i).2) := if_neg h
theorem wDn_ok (k : Nat → Int) (x : Nat → ByteArray) : ∀ i, wOk (wDn k x i).1 (wDn k x i).2
  | 0 => wOk_nil
  | i + 1 => by
    by_cases h : k i = 1
    · rw [wDn_sync h]; exact (wDn_ok k x i).all
    · rw [wDn_app h]; exact wApp_ok (wDn_ok k x i) _
/-- A log behind the first i deeds. -/
def wPl (k : Nat → Int) (x : Nat → ByteArray) (K : Nat → Nat) : Nat → List ByteArray × Nat
  | 0 => ([], 0)
  | i + 1 => if k i = 1 then ((wPl k x K i).1, (wPl k x K i).1.length) else if k i = 2 then (wCr (wPl k x K i).1 (wPl k x K i).2 (K i), (wCr (wPl k x K i).1 (wPl k x K i).2 (K i)).length) else ((wApp (wPl k x K i).1 (x i)).1, (wPl k x K i).2)
section
variable {k : Nat → Int} {x : Nat → ByteArray} {K : Nat → Nat} {i : Nat}
theorem wPl_sync (h : k i = 1) : wPl k x K (i + 1) = ((wPl k x K i).1, (wPl k x K i).1.length) := if_pos h
theorem wPl_crash (h : ¬ k i = 1) (h2 : k i = 2) : wPl k x K (i + 1) = (wCr (wPl k x K i).1 (wPl k x K i).2 (K i), (wCr (wPl k x K i).1 (wPl k x K i).2 (K i)).length) := (if_neg h).trans (if_pos h2)
theorem wPl_app (h : ¬ k i = 1) (h2 : ¬ k i = 2) : wPl k x K (i + 1) = ((wApp (wPl k x K i).1 (x i)).1, (wPl k x K i).2) := (if_neg h).trans (if_neg h2)
end
theorem wPl_ok (k : Nat → Int) (x : Nat → ByteArray) (K : Nat → Nat) : ∀ i, wOk (wPl k x K i).1 (wPl k x K i).2
  | 0 => wOk_nil
  | i + 1 => by
    by_cases h : k i = 1
    · rw [wPl_sync h]; exact (wPl_ok k x K i).all
    · by_cases h2 : k i = 2
      · have q := wCr_ok (wPl_ok k x K i) (K i)
        rw [wPl_crash h h2]
        generalize wCr (wPl k x K i).1 (wPl k x K i).2 (K i) = z at *
        exact q
      · rw [wPl_app h h2]; exact wApp_ok (wPl_ok k x K i) _
/-- What few tells. -/
def FewP (x : Nat → ByteArray) (n : Nat) (w : World) (e : Ending) (w' : World) : Prop := ∃ b, e = .returned (.bool b) ∧ (b = true → n ≤ 40 ∧ ∀ i, i < n → (x i).size ≤ 5000) ∧ Ext w w'
set_option maxHeartbeats 1000000 in
theorem few_any (v : Value) (n : Nat) (k : Nat → Int) (x : Nat → ByteArray) (K : Nat → Nat) (w : World) (hL : ActsIs w v n k x K) :
    Calls Try.prog 8 #[v] w fun e w' => FewP x n w e w' := by
  obtain ⟨a, cap, rfl, hc⟩ := hL
  have HL : Hid (ActsIs w (.slice a n cap) n k x K) := ⟨a, cap, rfl, hc⟩
  have HE0 : Hid (Ext w w) := Ext.refl w
  clear hc
  by_cases hn : 40 < n
  · have h1 : (40 : Int) < (n : Int) := by omega
    go_enter Try.func8, Try.ntmps8
    go_wp2
    go_ret
    exact ⟨false, rfl, fun q => (by cases q), HE0.out⟩
  · have h1 : ¬ (40 : Int) < (n : Int) := by omega
    have Hn : Hid (n ≤ 100000) := by show _ ≤ _; omega
    have Hn6 : Hid (n ≤ 40) := by show _ ≤ _; omega
    clear hn
    go_enter Try.func8, Try.ntmps8
    go_wp2
    go_loopw [3] (fun u3 wr => ∃ j : Nat, j ≤ n ∧ u3 = .int .i64 j ∧ Hid (∀ i, i < j → (x i).size ≤ 5000) ∧ Hid (Ext w wr)) (fun u3 _ => n - (intOf u3).toNat)
    case atStart => exact ⟨0, Nat.zero_le _, rfl, fun i hi => absurd hi (Nat.not_lt_zero i), HE0⟩
    case round =>
      obtain ⟨j, hk, rfl, HK, HE⟩ := hrel
      clear HE0
      by_cases hlt : j < n
      · obtain ⟨q1, q0, qw⟩ := lp_nums j n hlt Hn.out
        obtain ⟨g, o, rfl, hb, hc0, hc1, hc2⟩ := (HL.out.ext HE.out).get hlt
        by_cases hbig : 5000 < (x j).size
        · have q3 : (5000 : Int) < ((x j).size : Int) := by omega
          go_wp2
          go_ret
          exact ⟨false, rfl, fun q => (by cases q), HE.out⟩
        · have q3 : ¬ (5000 : Int) < ((x j).size : Int) := by omega
          have HKn : Hid (∀ i, i < j + 1 → (x i).size ≤ 5000) := fun i hi => by
            by_cases e : i = j
            · subst e; omega
            · exact HK.out i (by omega)
          go_wp2
          go_roundw
          case rel => exact ⟨j + 1, hlt, by push_cast; rfl, HKn, HE⟩
          case measure => exact lp_meas hlt
      · obtain rfl : j = n := by omega
        have hnl : ¬ (j : Int) < (j : Int) := by omega
        go_wp2
        go_ret
        exact ⟨true, rfl, fun _ => ⟨Hn6.out, HK.out⟩, HE.out⟩
end Go.Proofs.Ytbkdjpialjbhnaa

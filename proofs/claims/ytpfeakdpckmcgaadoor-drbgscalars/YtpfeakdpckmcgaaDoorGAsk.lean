/-
  Asks in a slice; sandglasslaw29.few, called; the document's calls over whole generators.
-/
import Derived.Test.YtpfeakdpckmcgaaDoorGLaws
namespace Go.Proofs.YtpfeakdpckmcgaaDoor
set_option maxRecDepth 10000
open Go.RowKit
/-- The slice v has n asks: kind, number, text. -/
def AsksIs (w : World) (v : Value) (n : Nat) (k m : Nat → Int) (x : Nat → ByteArray) : Prop :=
  ∃ (a : Option Addr) (cap : Nat), v = .slice a n cap ∧ (0 < n → ∃ b o, a = some ⟨b, o, none⟩ ∧ b < w.heap.size ∧ ∀ j, j < n → w.cell? ⟨b, o + j * 3, none⟩ = some (.int .i64 (k j)) ∧ w.cell? ⟨b, o + j * 3 + 1, none⟩ = some (.int .i64 (m j)) ∧ w.cell? ⟨b, o + j * 3 + 2, none⟩ = some (.string (x j)))
theorem AsksIs.ext {w w' : World} {v : Value} {n : Nat} {k m : Nat → Int} {x : Nat → ByteArray} (h : AsksIs w v n k m x) (hx : Ext w w') : AsksIs w' v n k m x := by
  obtain ⟨a, cap, hv, h⟩ := h
  refine ⟨a, cap, hv, fun hn => ?_⟩
  obtain ⟨b, o, ha, hb, hc⟩ := h hn
  exact ⟨b, o, ha, Nat.lt_of_lt_of_le hb hx.size, fun j hj => ⟨later hx (hc j hj).1, later hx (hc j hj).2.1, later hx (hc j hj).2.2⟩⟩
theorem AsksIs.get {w : World} {a : Option Addr} {cap n : Nat} {k m : Nat → Int} {x : Nat → ByteArray} (h : AsksIs w (.slice a n cap) n k m x) {j : Nat} (hj : j < n) :
    ∃ b o, a = some ⟨b, o, none⟩ ∧ b < w.heap.size ∧ w.cell? ⟨b, o + j * 3, none⟩ = some (.int .i64 (k j)) ∧ w.cell? ⟨b, o + j * 3 + 1, none⟩ = some (.int .i64 (m j)) ∧ w.cell? ⟨b, o + j * 3 + 2, none⟩ = some (.string (x j)) := by
  obtain ⟨a', cap', hv, h⟩ := h
  injection hv with e1 e2 e3
  subst e1
  obtain ⟨b, o, ha, hb, hc⟩ := h (by omega)
  exact ⟨b, o, ha, hb, hc j hj⟩
theorem lp_nums (k n : Nat) (h : k < n) (hn : n ≤ 100000) : ((k : Int) < (n : Int)) ∧ (0 : Int) ≤ (k : Int) ∧ IntKind.i64.wrap ((k : Int) + 1) = (k : Int) + 1 := by
  refine ⟨by omega, by omega, ?_⟩
  rw [IntKind.wrap_i64]; omega
theorem lp_meas {k n : Nat} (h : k < n) : n - (intOf (.int .i64 ((k : Int) + 1))).toNat < n - (intOf (.int .i64 (k : Int))).toNat := by simp [intOf]; omega
/-- What few tells. -/
def FewP (s : ByteArray) (x : Nat → ByteArray) (n : Nat) (w : World) (e : Ending) (w' : World) : Prop := ∃ b, e = .returned (.bool b) ∧ (b = true → s.size ≤ 1000 ∧ n ≤ 12 ∧ ∀ i, i < n → (x i).size ≤ 1000) ∧ Ext w w'
set_option maxHeartbeats 2000000 in
theorem few_any (s : ByteArray) (v : Value) (n : Nat) (k m : Nat → Int) (x : Nat → ByteArray) (w : World) (hL : AsksIs w v n k m x) :
    Calls Tryd.prog 8 #[.string s, v] w fun e w' => FewP s x n w e w' := by
  obtain ⟨a, cap, rfl, hc⟩ := hL
  have HL : Hid (AsksIs w (.slice a n cap) n k m x) := ⟨a, cap, rfl, hc⟩
  have HE0 : Hid (Ext w w) := Ext.refl w
  clear hc
  by_cases hs : 1000 < s.size
  · have h1 : (1000 : Int) < (s.size : Int) := by omega
    go_enter Tryd.func8, Tryd.ntmps8
    go_wp2
    go_ret
    exact ⟨false, rfl, fun q => (by cases q), HE0.out⟩
  have h1 : ¬ (1000 : Int) < (s.size : Int) := by omega
  by_cases hn : 12 < n
  · have h2 : (12 : Int) < (n : Int) := by omega
    go_enter Tryd.func8, Tryd.ntmps8
    go_wp2
    go_ret
    exact ⟨false, rfl, fun q => (by cases q), HE0.out⟩
  have h2 : ¬ (12 : Int) < (n : Int) := by omega
  have Hn : Hid (n ≤ 100000) := by show _ ≤ _; omega
  have Hn6 : Hid (n ≤ 12) := by show _ ≤ _; omega
  have Hs : Hid (s.size ≤ 1000) := by show _ ≤ _; omega
  clear hn hs
  go_enter Tryd.func8, Tryd.ntmps8
  go_wp2
  go_loopw [5] (fun u5 wr => ∃ j : Nat, j ≤ n ∧ u5 = .int .i64 j ∧ Hid (∀ i, i < j → (x i).size ≤ 1000) ∧ Hid (Ext w wr)) (fun u5 _ => n - (intOf u5).toNat)
  case atStart => exact ⟨0, Nat.zero_le _, rfl, fun i hi => absurd hi (Nat.not_lt_zero i), HE0⟩
  case round =>
    obtain ⟨j, hk, rfl, HK, HE⟩ := hrel
    clear HE0
    by_cases hlt : j < n
    · obtain ⟨q1, q0, qw⟩ := lp_nums j n hlt Hn.out
      obtain ⟨g, o, rfl, hb, hc0, hc1, hc2⟩ := (HL.out.ext HE.out).get hlt
      by_cases hbig : 1000 < (x j).size
      · have q3 : (1000 : Int) < ((x j).size : Int) := by omega
        go_wp2
        go_ret
        exact ⟨false, rfl, fun q => (by cases q), HE.out⟩
      · have q3 : ¬ (1000 : Int) < ((x j).size : Int) := by omega
        have HKn : Hid (∀ i, i < j + 1 → (x i).size ≤ 1000) := fun i hi => by
          by_cases e : i = j
          · subst e; omega
          · exact HK.out i (by omega)
        by_cases e0 : k j = 0
        · have d0 : decide (k j = 0) = true := decide_eq_true e0
          by_cases e1 : 500 < m j
          · by_cases e2 : m j ≤ 4096
            · go_wp2
              go_ret
              exact ⟨false, rfl, fun q => (by cases q), HE.out⟩
            · have e2' : decide (m j ≤ 4096) = false := decide_eq_false e2
              have e2'' : (m j ≤ 4096) = False := eq_false e2
              go_wp2
              go_roundw
              case rel => exact ⟨j + 1, hlt, by push_cast; rfl, HKn, HE⟩
              case measure => exact lp_meas hlt
          · go_wp2
            go_roundw
            case rel => exact ⟨j + 1, hlt, by push_cast; rfl, HKn, HE⟩
            case measure => exact lp_meas hlt
        · have d0 : decide (k j = 0) = false := decide_eq_false e0
          go_wp2
          go_roundw
          case rel => exact ⟨j + 1, hlt, by push_cast; rfl, HKn, HE⟩
          case measure => exact lp_meas hlt
    · obtain rfl : j = n := by omega
      have hnl : ¬ (j : Int) < (j : Int) := by omega
      go_wp2
      go_ret
      exact ⟨true, rfl, fun _ => ⟨Hs.out, Hn6.out, HK.out⟩, HE.out⟩
theorem rbytes_all (n : Int) (x : Gs) (hx : GOk x 1000000) (w : World) : Calls Tryd.prog 12 #[gdX x, .int .i64 n] w fun e w' => e = .returned (.tuple #[gdX (byX n x), .string (byT n x), .int .i64 (byE n)]) ∧ Ext w w' := by
  cases hb : byBad n with
  | true =>
    unfold byT byE byX
    rw [if_pos hb, if_pos hb, if_pos hb]
    refine rbytes_bad x.1 x.2.1 _ n ?_ w
    unfold byBad at hb
    simpa using hb
  | false =>
    unfold byT byE byX
    have hq : ¬ byBad n = true := by rw [hb]; decide
    rw [if_neg hq, if_neg hq, if_neg hq]
    have hh : 0 ≤ n ∧ n ≤ 4096 := by
      unfold byBad at hb
      simp at hb
      exact hb
    obtain ⟨m, rfl⟩ := Int.eq_ofNat_of_zero_le hh.1
    rw [Int.toNat_natCast]
    exact rbytes_any x.1 x.2.1 x.2.2 m hx.1 hx.2.1 (by omega) (by have := hx.2.2; omega) w
end Go.Proofs.YtpfeakdpckmcgaaDoor

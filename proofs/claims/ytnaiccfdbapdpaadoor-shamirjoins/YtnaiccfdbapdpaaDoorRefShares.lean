/-
  The document's Shares (sandglassref13), called: the shares at 1 and up, in new memory; nothing old is turned.
-/
import Derived.Test.YtnaiccfdbapdpaaDoorRefEval
namespace Go.Proofs.YtnaiccfdbapdpaaDoor
open Go.RowKit
theorem info47 : (Tryd.prog.info? 47).map (fun i => (i.zero, i.size, i.bytes)) = some (some (.agg #[.int .i64 0, .int .u64 0, .int .u64 0, .int .u64 0, .int .u64 0]), 5, 40) := by kernel_rfl
theorem info26 : (Tryd.prog.info? 26).map (fun i => (i.zero, i.size, i.bytes)) = some (some (.agg #[.int .u64 0, .int .u64 0, .int .u64 0, .int .u64 0]), 4, 32) := by kernel_rfl
/-- Word j of a number modulo q. -/
def qw (X : Int) (j : Nat) : Int := if j = 0 then X % FQ % 18446744073709551616 else if j = 1 then X % FQ / 18446744073709551616 % 18446744073709551616 else if j = 2 then X % FQ / 18446744073709551616 / 18446744073709551616 % 18446744073709551616 else X % FQ / 18446744073709551616 / 18446744073709551616 / 18446744073709551616
theorem qw_mod (X : Int) : QMod X (qw X 0) (qw X 1) (qw X 2) (qw X 3) := by
  have h1 := Int.emod_nonneg X (show FQ ≠ 0 by decide)
  have h2 := Int.emod_lt_of_pos X FQ_pos
  show QMod X (X % FQ % 18446744073709551616) (X % FQ / 18446744073709551616 % 18446744073709551616) (X % FQ / 18446744073709551616 / 18446744073709551616 % 18446744073709551616) (X % FQ / 18446744073709551616 / 18446744073709551616 / 18446744073709551616)
  suffices h : ∀ V : Int, 0 ≤ V → V < FQ → Lim4 (V % 18446744073709551616) (V / 18446744073709551616 % 18446744073709551616) (V / 18446744073709551616 / 18446744073709551616 % 18446744073709551616) (V / 18446744073709551616 / 18446744073709551616 / 18446744073709551616) ∧ val (V % 18446744073709551616) (V / 18446744073709551616 % 18446744073709551616) (V / 18446744073709551616 / 18446744073709551616 % 18446744073709551616) (V / 18446744073709551616 / 18446744073709551616 / 18446744073709551616) = V from h _ h1 h2
  intro V h1 h2
  refine ⟨?_, ?_⟩
  · unfold Lim4 Lim FQ at *
    omega
  · unfold val
    omega
theorem qw_one {X r0 r1 r2 r3 : Int} (h : QMod X r0 r1 r2 r3) : r0 = qw X 0 ∧ r1 = qw X 1 ∧ r2 = qw X 2 ∧ r3 = qw X 3 := h.one (qw_mod X) rfl
/-- A share's cells. -/
def shc (p X : Int) : List Value := [.int .i64 p, .int .u64 (qw X 0), .int .u64 (qw X 1), .int .u64 (qw X 2), .int .u64 (qw X 3)]
/-- The cells of k shares: share i lies at P i and has the value X i modulo q. -/
def shs (P X : Nat → Int) : Nat → List Value
  | 0 => []
  | k + 1 => shs P X k ++ shc (P k) (X k)
theorem shs_len (P X : Nat → Int) : ∀ k, (shs P X k).length = k * 5
  | 0 => rfl
  | k + 1 => by unfold shs; rw [List.length_append, shs_len P X k]; show k * 5 + 5 = _; omega
theorem news5 (w : World) {a : Value} {b c d e : Value} {t : TypeId} : ∀ j u, [a, b, c, d, e][j]? = some u → (w.alloc (.cells #[a, b, c, d, e] t)).cell? (Addr.add ⟨w.heap.size, 0, none⟩ j) = some u := by
  intro j u h
  match j, h with
  | 0, h => simp at h; subst h; simp [Addr.add]
  | 1, h => simp at h; subst h; simp [Addr.add]
  | 2, h => simp at h; subst h; simp [Addr.add]
  | 3, h => simp at h; subst h; simp [Addr.add]
  | 4, h => simp at h; subst h; simp [Addr.add]
theorem shc_one (p X : Int) : ∀ u ∈ shc p X, u.oneCell' = true := by
  intro u h
  simp [shc] at h
  rcases h with rfl | rfl | rfl | rfl | rfl <;> rfl
def cnt (m : Int) : Nat := if m < 0 then 0 else if 7 < m then 7 else m.toNat
theorem cnt_le (m : Int) : cnt m ≤ 7 := by unfold cnt; split <;> (try split) <;> omega
theorem cnt_lt {m : Int} {k : Nat} : k < cnt m ↔ (k : Int) + 1 ≤ m ∧ k < 7 := by unfold cnt; split <;> (try split) <;> omega
set_option maxHeartbeats 4000000 in
set_option maxRecDepth 10000 in
theorem rshares_any (v : Value) (n : Nat) (f : Nat → Nat → Int) (m : Int) (hn : n ≤ 1000) (hl : LimN f n) (w : World) (hL : Lies w v n 4 (nc f)) :
    Calls Tryd.prog 13 #[v, .int .i64 m] w fun e w' => ∃ u, e = .returned u ∧ w'.ownsRow w.heap.size 47 5 u (cnt m) (shs (fun i => (i : Int) + 1) (fun i => evL (cfs f n) ((i : Int) + 1)) (cnt m)) ∧ Ext w w' := by
  obtain ⟨i0, hi, hz0, hz1, hz2⟩ := info_parts info47
  have HEv : Hid (∀ k : Nat, k < 7 → ∀ W, Ext w W → Calls Tryd.prog 10 #[v, .int .i64 ((k : Int) + 1)] W fun e w' => e = .returned (.agg #[.int .u64 (qw (evL (cfs f n) ((k : Int) + 1)) 0), .int .u64 (qw (evL (cfs f n) ((k : Int) + 1)) 1), .int .u64 (qw (evL (cfs f n) ((k : Int) + 1)) 2), .int .u64 (qw (evL (cfs f n) ((k : Int) + 1)) 3)]) ∧ Ext W w') := by
    intro k hk W hW
    refine (reval_any v n f ((k : Int) + 1) (by unfold I64; omega) hn hl W (hL.ext hW)).mono ?_
    rintro e w' ⟨r0, r1, r2, r3, rfl, HQ, HX⟩
    have hp : plc ((k : Int) + 1) = (k : Int) + 1 := by unfold plc; rw [if_neg (by omega)]
    obtain ⟨rfl, rfl, rfl, rfl⟩ := qw_one HQ.out
    rw [hp]
    exact ⟨rfl, HX⟩
  have HC : Hid (∀ k : Nat, k < cnt m ↔ (k : Int) + 1 ≤ m ∧ k < 7) := fun k => cnt_lt
  have HC7 : Hid (cnt m ≤ 7) := cnt_le m
  obtain ⟨P, hP⟩ : ∃ P, Hid ((fun i => (i : Int) + 1 : Nat → Int) = P) := ⟨_, rfl⟩
  obtain ⟨X, hX⟩ : ∃ X, Hid ((fun i => evL (cfs f n) ((i : Int) + 1) : Nat → Int) = X) := ⟨_, rfl⟩
  have HEv : Hid (∀ k : Nat, k < 7 → ∀ W, Ext w W → Calls Tryd.prog 10 #[v, .int .i64 ((k : Int) + 1)] W fun e w' => e = .returned (.agg #[.int .u64 (qw (X k) 0), .int .u64 (qw (X k) 1), .int .u64 (qw (X k) 2), .int .u64 (qw (X k) 3)]) ∧ Ext W w') := by rw [← hX.out]; exact HEv
  have HPk : Hid (∀ k : Nat, P k = (k : Int) + 1) := by rw [← hP.out]; exact fun k => rfl
  rw [hP.out, hX.out]
  clear hP hX hL hl
  generalize cnt m = c at *
  have HO : Hid (w.ownsRow w.heap.size 47 5 (.slice none 0 0) 0 (shs P X 0)) := World.ownsRow_nil _ _ _ _
  have HE0 : Hid (Ext w w) := Ext.refl w
  go_enter Tryd.func13, Tryd.ntmps13
  go_wp2
  go_loopw [5, 6] (fun u5 u6 wr => ∃ k : Nat, k ≤ c ∧ u6 = .int .i64 ((k : Int) + 1) ∧ Hid (wr.ownsRow w.heap.size 47 5 u5 k (shs P X k)) ∧ Hid (Ext w wr)) (fun _ u6 _ => 8 - (intOf u6).toNat)
  case atStart => exact ⟨0, Nat.zero_le _, rfl, HO, HE0⟩
  case round =>
    obtain ⟨k, hk, rfl, HOr, HE⟩ := hrel
    clear HO HE0
    have hk7 : k ≤ 7 := Nat.le_trans hk HC7.out
    by_cases hlt : k < c
    · obtain ⟨h1, h2⟩ := (HC.out k).1 hlt
      have h3 : (k : Int) + 1 ≤ 7 := by omega
      have hw : IntKind.i64.wrap ((k : Int) + 1 + 1) = (k : Int) + 1 + 1 := by rw [IntKind.wrap_i64]; omega
      go_wp2_with fail
      refine (HEv.out k h2 _ HE.out).mono ?_
      rintro e w1 ⟨rfl, HX⟩
      have HO1 : Hid (w1.ownsRow w.heap.size 47 5 u5 k (shs P X k)) := own_ext HOr.out HX
      have HE1 : Hid (Ext w w1) := HE.out.trans HX
      clear HX HOr HE
      go_wp2_with (first | (at_builtin; refine wpList_append_lies _ rfl _ _ 29 rfl w.heap.size 47 i0 (.agg #[.int .i64 0, .int .u64 0, .int .u64 0, .int .u64 0, .int .u64 0]) 5 40 Tryd.underlying29 hi hz0 hz1 hz2 rfl (by decide) u5 k (shs P X k) rfl (HO1.out.alloc _) ⟨w1.heap.size, 0, none⟩ 1 1 (shc ((k : Int) + 1) (X k)) rfl rfl ?c1 (shc_one _ _) (by decide) (by unfold maxLen; omega) (by omega) ?c2 _ rfl ?_))
      case c1 => exact news5 w1
      case c2 => (have := HE1.out.size; simp; omega)
      intro g cap w2 hown hgrow _ hlt2
      have HO2 : Hid (w2.ownsRow w.heap.size 47 5 (.slice (some ⟨g, 0, none⟩) (k + 1) cap) (k + 1) (shs P X (k + 1))) := by
        show World.ownsRow _ _ _ _ _ _ _
        rw [show shs P X (k + 1) = shs P X k ++ shc (P k) (X k) from rfl, HPk.out k]
        exact hown
      have HE2 : Hid (Ext w w2) := Ext.grown (HE1.out.alloc _) (HO1.out.alloc _) (Nat.le_refl _) hgrow
      clear hown hgrow HO1 HE1
      go_wp2
      go_roundw
      case rel => exact ⟨k + 1, hlt, by push_cast; rfl, HO2, HE2⟩
      case measure => simp [intOf]; omega
    · obtain rfl : k = c := by omega
      have h1 : ¬ ((k : Int) + 1 ≤ m ∧ (k : Int) + 1 ≤ 7) := fun h => hlt ((HC.out k).2 ⟨h.1, by omega⟩)
      by_cases hm : (k : Int) + 1 ≤ m
      · have h2 : ¬ (k : Int) + 1 ≤ 7 := fun h => h1 ⟨hm, h⟩
        go_wp2
        go_ret
        exact ⟨_, rfl, HOr.out, HE.out⟩
      · go_wp2
        go_ret
        exact ⟨_, rfl, HOr.out, HE.out⟩
end Go.Proofs.YtnaiccfdbapdpaaDoor

/-
  RecordCut, called: true for every input; nothing old is turned.
-/
import Derived.Test.YtenkfbfiombpkaaRLaws
namespace Go.Proofs.Ytenkfbfiombpkaa
open Go.RowKit
theorem lsT_take (L : Nat → ByteArray) {m n : Nat} (h : m ≤ n) : (lsT L n).take m = lsT L m := by
  unfold lsT
  rw [← List.map_take, List.take_range, Nat.min_eq_left h]
theorem lsT_length (L : Nat → ByteArray) (n : Nat) : (lsT L n).length = n := by simp [lsT]
theorem lsT_lies {w : World} {u : Value} {n : Nat} {L : Nat → ByteArray} (h : LiesT w u (lsT L n).length (fun k => (lsT L n).getD k ⟨#[]⟩)) : LiesT w u n L := by
  rw [lsT_length] at h
  refine h.congr fun k hk => ?_
  have hk2 : k < n := by omega
  simp [lsT, hk2]
theorem lies_part {w : World} {a : Option Addr} {n m cap c2 : Nat} {L : Nat → ByteArray} (h : LiesT w (.slice a n cap) n L) (hm : m ≤ n) : LiesT w (.slice a m c2) m L := by
  obtain ⟨a', cap', hv, hc⟩ := h
  cases hv
  refine ⟨a, c2, rfl, fun hm0 => ?_⟩
  obtain ⟨b, o, ha, hb, hc⟩ := hc (by omega)
  exact ⟨b, o, ha, hb, fun k hk => hc k (by omega)⟩
theorem lgOk_le {L : Nat → ByteArray} {m n : Nat} (h : lgOk L n) (hm : m ≤ n) : lgOk L m := ⟨fun i hi => h.1 i (by omega), Nat.le_trans (lgN_mono L hm) h.2⟩
/-- A log that is cut at K. -/
theorem cut_at (L : Nat → ByteArray) (n K : Nat) (hk : lgOk L n) (hK : K ≤ (lgN L n).size) : ∃ M, M ≤ n ∧ pf ((lgN L n).extract 0 K) 0 = (lsT L M, (lgN L M).size) ∧ (lgN L M).size ≤ K ∧ (M < n → K < (lgN L (M + 1)).size) := by
  have hz : ∀ x ∈ lsT L n, x.size ≤ 4096 := fun x hx => by
    obtain ⟨i, hi, rfl⟩ := List.mem_map.1 hx
    exact hk.1 i (List.mem_range.1 hi)
  have h := pf_cut (lsT L n) ⟨#[]⟩ K hz hK
  rw [nil_app] at h
  have hM : fit (lsT L n) K ≤ n := by have := fit_le (lsT L n) K; rw [lsT_length] at this; exact this
  have h1 := fit_size (lsT L n) K
  have h2 := fit_next (lsT L n) K
  rw [lsT_length] at h2
  rw [lsT_take L hM] at h h1
  refine ⟨fit (lsT L n) K, hM, ?_, h1, fun hlt => ?_⟩
  · rw [show ((⟨#[]⟩ : ByteArray).size + K) = K from Nat.zero_add K] at h
    rw [show ((⟨#[]⟩ : ByteArray).size) = 0 from rfl, Nat.zero_add] at h
    exact h
  · have := h2 hlt
    rw [lsT_take L hlt] at this
    exact this
theorem rem_nums (at_ : Int) (T : Nat) (hT : T ≤ 65536) : ∃ K : Nat, K ≤ T ∧ (IntKind.u64.wrap at_).tmod ((T : Int) + 1) = (K : Int) ∧ (IntKind.u64.wrap at_).tmod (((T : Int) + 1)) = (K : Int) ∧ IntKind.i64.wrap (K : Int) = (K : Int) ∧ IntKind.u64.wrap (K : Int) = (K : Int) := by
  have h0 : 0 ≤ IntKind.u64.wrap at_ := by rw [IntKind.wrap_u64]; omega
  have e := Int.tmod_eq_emod_of_nonneg (b := (T : Int) + 1) h0
  have h1 := Int.emod_nonneg (IntKind.u64.wrap at_) (show (T : Int) + 1 ≠ 0 by omega)
  have h2 := Int.emod_lt_of_pos (IntKind.u64.wrap at_) (show (0 : Int) < (T : Int) + 1 by omega)
  generalize IntKind.u64.wrap at_ % ((T : Int) + 1) = r at *
  refine ⟨r.toNat, by omega, by omega, by omega, ?_, ?_⟩
  · rw [IntKind.wrap_i64]; omega
  · rw [IntKind.wrap_u64]; omega
set_option maxHeartbeats 4000000 in
theorem recordCut_any (a : Option Addr) (n cap : Nat) (hcap : n ≤ cap) (L : Nat → ByteArray) (at_ : Int) (w : World) (hL : LiesT w (.slice a n cap) n L) :
    Calls Try.prog 6 #[.slice a n cap, .int .i64 at_] w fun e w' => e = .returned (.bool true) ∧ Ext w w' := by
  have HF : Hid (∀ W, LiesT W (.slice a n cap) n L → Calls Try.prog 18 #[.slice a n cap] W fun e w' => FewP L n W e w') := fun W h => few_any _ n L W h
  have HL : Hid (LiesT w (.slice a n cap) n L) := hL
  clear hL
  go_enter Try.func6, Try.ntmps6
  go_wp2_with fail
  refine (HF.out _ HL.out).mono ?_
  rintro e w1 ⟨b, rfl, HB, HX⟩
  have HE1 : Hid (Ext w w1) := HX
  clear HX HF
  cases b with
  | false =>
    go_wp2_with fail
    refine (awake_any _).mono ?_
    rintro e w2 ⟨rfl, HX⟩
    have HEw2 : Hid (Ext w w2) := HE1.out.trans HX
    clear HX
    go_wp2
    go_ret
    exact ⟨rfl, HEw2.out⟩
  | true =>
    have hn : n ≤ 1000 := Nat.le_trans (HB rfl).1 (by decide)
    by_cases hk : lgOk L n
    · have H1 : Hid (∀ W, LiesT W (.slice a n cap) n L → Calls Try.prog 19 #[.slice a n cap] W fun e w' => e = .returned (.tuple #[.string (lgN L n), .int .i64 0]) ∧ Ext W w') := fun W h => clog_good _ n L hn hk W h
      obtain ⟨T, HT⟩ : ∃ T, Hid ((lgN L n).size = T) := ⟨_, rfl⟩
      have hT : T ≤ 65536 := by rw [← HT.out]; exact hk.2
      obtain ⟨K, hK, r1, r2, r3, r4⟩ := rem_nums at_ T hT
      obtain ⟨M, hM, hp, hz, hnx⟩ := cut_at L n K hk (by rw [HT.out]; exact hK)
      have hTz : (lgN L n).size = T := HT.out
      go_wp2_with fail
      refine (H1.out _ (HL.out.ext HE1.out)).mono ?_
      rintro e w2 ⟨rfl, HX⟩
      have HEw2 : Hid (Ext w w2) := HE1.out.trans HX
      clear HX
      have HTe : Hid (((lgN L n).extract 0 K).size ≤ 100000) := by show _ ≤ _; rw [ByteArray.size_extract]; omega
      have H2 : Hid (∀ W, Calls Try.prog 15 #[.string ((lgN L n).extract 0 K)] W fun e w' => ∃ u, e = .returned (.tuple #[u, .int .i64 ((lgN L M).size : Int)]) ∧ LiesT w' u M L ∧ Ext W w') := fun W => (cprefix_of HTe.out hp W).mono fun e w' ⟨u, h1, h2, h3⟩ => ⟨u, h1, lsT_lies h2, h3⟩
      have H3 : Hid (∀ W u, LiesT W u M L → Calls Try.prog 19 #[u] W fun e w' => e = .returned (.tuple #[.string (lgN L M), .int .i64 0]) ∧ Ext W w') := fun W u h => clog_good u M L (by omega) (lgOk_le hk hM) W h
      have H4 : Hid (M < n → ∀ W u, LiesT W u (M + 1) L → Calls Try.prog 19 #[u] W fun e w' => e = .returned (.tuple #[.string (lgN L (M + 1)), .int .i64 0]) ∧ Ext W w') := fun q W u h => clog_good u (M + 1) L (by omega) (lgOk_le hk q) W h
      have HM1 : Hid (M ≤ 100000) := by show _ ≤ _; omega
      obtain ⟨z, Hz⟩ : ∃ z, Hid ((lgN L M).size = z) := ⟨_, rfl⟩
      rw [Hz.out] at H2 hz
      have hz' : (lgN L M).size = z := Hz.out
      have c1 : ¬ (n : Int) < (M : Int) := by omega
      have c2 : ¬ (K : Int) < (z : Int) := by omega
      have c3 : (0 : Int) ≤ (M : Int) := by omega
      have c4 : (M : Int) ≤ (cap : Int) := by omega
      have HMn : Hid (M ≤ n) := hM
      clear hn HB hk hp HT HTe hM hz
      go_wp2_with fail
      refine (H2.out _).mono ?_
      rintro e w3 ⟨u, rfl, HL3, HX⟩
      have HEw3 : Hid (Ext w w3) := HEw2.out.trans HX
      have HLu : Hid (LiesT w3 u M L) := HL3
      obtain ⟨a2, cap2, rfl⟩ := liesT_len HL3
      clear HX HL3
      go_wp2_with fail
      refine (rsame_any _ _ M L HM1.out _ HLu.out (lies_part (HL.out.ext HEw3.out) HMn.out)).mono ?_
      rintro e w4 ⟨rfl, HX⟩
      have HEw4 : Hid (Ext w w4) := HEw3.out.trans HX
      have HLv : Hid (LiesT w4 (.slice a2 M cap2) M L) := HLu.out.ext HX
      clear HX HLu
      go_wp2_with fail
      refine (H3.out _ _ HLv.out).mono ?_
      rintro e w5 ⟨rfl, HX⟩
      have HEw5 : Hid (Ext w w5) := HEw4.out.trans HX
      clear HX
      by_cases hlt : M < n
      · have d1 : (M : Int) < (n : Int) := by omega
        have d2 : IntKind.i64.wrap ((M : Int) + 1) = (M : Int) + 1 := by have := HM1.out; rw [IntKind.wrap_i64]; omega
        have d3 : (0 : Int) ≤ (M : Int) + 1 := by omega
        have d4 : (M : Int) + 1 ≤ (cap : Int) := by omega
        have d5 : ((M : Int) + 1).toNat = M + 1 := by omega
        have d6 : (K : Int) < ((lgN L (M + 1)).size : Int) := by have := hnx hlt; omega
        have H4' : Hid _ := H4.out hlt
        clear H4 hnx
        go_wp2_with fail
        refine (H4'.out _ _ (lies_part (HL.out.ext HEw5.out) hlt)).mono ?_
        rintro e w6 ⟨rfl, HX⟩
        have HEw6 : Hid (Ext w w6) := HEw5.out.trans HX
        clear HX
        go_wp2_with fail
        refine (awake_any _).mono ?_
        rintro e w7 ⟨rfl, HX⟩
        have HEw7 : Hid (Ext w w7) := HEw6.out.trans HX
        clear HX
        go_wp2
        go_ret
        exact ⟨rfl, HEw7.out⟩
      · have d1 : ¬ (M : Int) < (n : Int) := by omega
        clear H4 hnx
        go_wp2_with fail
        refine (awake_any _).mono ?_
        rintro e w7 ⟨rfl, HX⟩
        have HEw7 : Hid (Ext w w7) := HEw5.out.trans HX
        clear HX
        go_wp2
        go_ret
        exact ⟨rfl, HEw7.out⟩
    · have H1 : Hid (∀ W, LiesT W (.slice a n cap) n L → Calls Try.prog 19 #[.slice a n cap] W fun e w' => e = .returned (.tuple #[.string ⟨#[]⟩, .int .i64 2]) ∧ Ext W w') := fun W h => clog_bad _ n L hn hk W h
      clear hn HB hk
      go_wp2_with fail
      refine (H1.out _ (HL.out.ext HE1.out)).mono ?_
      rintro e w2 ⟨rfl, HX⟩
      have HEw2 : Hid (Ext w w2) := HE1.out.trans HX
      clear HX
      go_wp2_with fail
      refine (awake_any _).mono ?_
      rintro e w3 ⟨rfl, HX⟩
      have HEw3 : Hid (Ext w w3) := HEw2.out.trans HX
      clear HX
      go_wp2
      go_ret
      exact ⟨rfl, HEw3.out⟩
end Go.Proofs.Ytenkfbfiombpkaa

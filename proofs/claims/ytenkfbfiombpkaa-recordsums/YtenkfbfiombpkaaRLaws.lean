/-
  The laws of layer 17, called: true for every input; nothing old is turned.
-/
import Derived.Test.YtenkfbfiombpkaaRAwake
namespace Go.Proofs.Ytenkfbfiombpkaa
open Go.RowKit
set_option maxHeartbeats 2000000 in
theorem recordSums_any (s : ByteArray) (hs : s.size ≤ maxLen) (w : World) :
    Calls Try.prog 3 #[.string s] w fun e w' => e = .returned (.bool true) ∧ Ext w w' := by
  have HE0 : Hid (Ext w w) := Ext.refl w
  unfold maxLen at hs
  by_cases h5 : 10000 < s.size
  · have h6 : (10000 : Int) < (s.size : Int) := by omega
    go_enter Try.func3, Try.ntmps3
    go_wp2_with fail
    refine (awake_any _).mono ?_
    rintro e w1 ⟨rfl, HX⟩
    have HEw1 : Hid (Ext w w1) := HE0.out.trans HX
    clear HX
    go_wp2
    go_ret
    exact ⟨rfl, HEw1.out⟩
  · have h6 : ¬ (10000 : Int) < (s.size : Int) := by omega
    obtain ⟨t, m, H1, H2⟩ : ∃ (t : ByteArray) (m : Int), Hid (∀ W, Calls Try.prog 9 #[.string s] W fun e w' => e = .returned (.tuple #[.string t, .int .i64 m]) ∧ Ext W w') ∧ Hid (∀ W, Calls Try.prog 10 #[.string s] W fun e w' => e = .returned (.tuple #[.string t, .int .i64 m]) ∧ Ext W w') := by
      by_cases hb : 4096 < s.size
      · exact ⟨_, _, fun W => cframe_bad s hb W, fun W => rframe_bad s hb W⟩
      · exact ⟨_, _, fun W => cframe_good s (by omega) W, fun W => rframe_good s (by omega) W⟩
    have H3 : Hid (∀ W, Calls Try.prog 11 #[.string s] W fun e w' => e = .returned (.int .u32 (crcN s)) ∧ Ext W w') := fun W => csum_any s (by omega) W
    have H4 : Hid (∀ W, Calls Try.prog 12 #[.string s] W fun e w' => e = .returned (.int .u32 (crcN s)) ∧ Ext W w') := fun W => rsum_any s (by omega) W
    generalize crcN s = c at *
    go_enter Try.func3, Try.ntmps3
    go_wp2_with fail
    refine (H1.out _).mono ?_
    rintro e w1 ⟨rfl, HX⟩
    have HEw1 : Hid (Ext w w1) := HE0.out.trans HX
    clear HX
    go_wp2_with fail
    refine (H2.out _).mono ?_
    rintro e w2 ⟨rfl, HX⟩
    have HEw2 : Hid (Ext w w2) := HEw1.out.trans HX
    clear HX
    go_wp2_with fail
    refine (H3.out _).mono ?_
    rintro e w3 ⟨rfl, HX⟩
    have HEw3 : Hid (Ext w w3) := HEw2.out.trans HX
    clear HX
    go_wp2_with fail
    refine (H4.out _).mono ?_
    rintro e w4 ⟨rfl, HX⟩
    have HEw4 : Hid (Ext w w4) := HEw3.out.trans HX
    clear HX
    go_wp2_with fail
    refine (awake_any _).mono ?_
    rintro e w5 ⟨rfl, HX⟩
    have HEw5 : Hid (Ext w w5) := HEw4.out.trans HX
    clear HX
    go_wp2
    go_ret
    exact ⟨rfl, HEw5.out⟩
theorem pfF_count (s : ByteArray) : ∀ f p, (pfF s f p).1.length * 8 ≤ s.size - p
  | 0, p => Nat.zero_le _
  | f + 1, p => by
    unfold pfF
    split
    · rename_i h
      have h1 := nxt_ok' h
      have hz : (s.extract p s.size).size ≤ s.size - p := by rw [ByteArray.size_extract]; omega
      have := pfF_count s f (p + (nxt (s.extract p s.size)).2.1)
      show ((pfF s f _).1.length + 1) * 8 ≤ _
      omega
    · exact Nat.zero_le _
theorem pf_count (s : ByteArray) (p : Nat) : (pf s p).1.length ≤ s.size := by
  have := pfF_count s (s.size - p + 1) p
  unfold pf
  omega
set_option maxHeartbeats 2000000 in
theorem recordNexts_any (s : ByteArray) (hs : s.size ≤ maxLen) (w : World) :
    Calls Try.prog 4 #[.string s] w fun e w' => e = .returned (.bool true) ∧ Ext w w' := by
  have HE0 : Hid (Ext w w) := Ext.refl w
  unfold maxLen at hs
  by_cases h5 : 10000 < s.size
  · have h6 : (10000 : Int) < (s.size : Int) := by omega
    go_enter Try.func4, Try.ntmps4
    go_wp2_with fail
    refine (awake_any _).mono ?_
    rintro e w1 ⟨rfl, HX⟩
    have HEw1 : Hid (Ext w w1) := HE0.out.trans HX
    clear HX
    go_wp2
    go_ret
    exact ⟨rfl, HEw1.out⟩
  · have h6 : ¬ (10000 : Int) < (s.size : Int) := by omega
    have Hs : Hid (s.size ≤ 100000) := by show _ ≤ _; omega
    obtain ⟨t, n, m, hx⟩ : ∃ t n m, nxt s = (t, n, m) := ⟨_, _, _, rfl⟩
    obtain ⟨l, p, hp⟩ : ∃ l p, pf s 0 = (l, p) := ⟨_, _, rfl⟩
    have HLn : Hid (l.length ≤ 100000) := by
      have := pf_count s 0
      rw [hp] at this
      show _ ≤ _
      have : l.length ≤ s.size := this
      omega
    have H1 : Hid (∀ W, Calls Try.prog 13 #[.string s] W _) := fun W => cnext_of Hs.out hx W
    have H2 : Hid (∀ W, Calls Try.prog 14 #[.string s] W _) := fun W => rnext_of Hs.out hx W
    have H3 : Hid (∀ W, Calls Try.prog 15 #[.string s] W _) := fun W => cprefix_of Hs.out hp W
    have H4 : Hid (∀ W, Calls Try.prog 16 #[.string s] W _) := fun W => rprefix_of Hs.out hp W
    clear hx hp
    go_enter Try.func4, Try.ntmps4
    go_wp2_with fail
    refine (H1.out _).mono ?_
    rintro e w1 ⟨rfl, HX⟩
    have HEw1 : Hid (Ext w w1) := HE0.out.trans HX
    clear HX
    go_wp2_with fail
    refine (H2.out _).mono ?_
    rintro e w2 ⟨rfl, HX⟩
    have HEw2 : Hid (Ext w w2) := HEw1.out.trans HX
    clear HX
    go_wp2_with fail
    refine (H3.out _).mono ?_
    rintro e w3 ⟨u3, rfl, HL3, HX⟩
    have HEw3 : Hid (Ext w w3) := HEw2.out.trans HX
    have HLa : Hid (LiesT w3 u3 l.length (fun k => l.getD k ⟨#[]⟩)) := HL3
    clear HX HL3
    go_wp2_with fail
    refine (H4.out _).mono ?_
    rintro e w4 ⟨u4, rfl, HL4, HX⟩
    have HEw4 : Hid (Ext w w4) := HEw3.out.trans HX
    have HLb : Hid (LiesT w4 u3 l.length (fun k => l.getD k ⟨#[]⟩)) := HLa.out.ext HX
    have HLc : Hid (LiesT w4 u4 l.length (fun k => l.getD k ⟨#[]⟩)) := HL4
    clear HX HL4 HLa
    go_wp2_with fail
    refine (rsame_any u3 u4 l.length _ HLn.out _ HLb.out HLc.out).mono ?_
    rintro e w5 ⟨rfl, HX⟩
    have HEw5 : Hid (Ext w w5) := HEw4.out.trans HX
    clear HX
    go_wp2_with fail
    refine (awake_any _).mono ?_
    rintro e w6 ⟨rfl, HX⟩
    have HEw6 : Hid (Ext w w6) := HEw5.out.trans HX
    clear HX
    go_wp2
    go_ret
    exact ⟨rfl, HEw6.out⟩
set_option maxHeartbeats 2000000 in
theorem recordLogs_any (v : Value) (n : Nat) (L : Nat → ByteArray) (w : World) (hL : LiesT w v n L) :
    Calls Try.prog 5 #[v] w fun e w' => e = .returned (.bool true) ∧ Ext w w' := by
  have HF : Hid (∀ W, LiesT W v n L → Calls Try.prog 18 #[v] W fun e w' => FewP L n W e w') := fun W h => few_any v n L W h
  have HL : Hid (LiesT w v n L) := hL
  clear hL
  go_enter Try.func5, Try.ntmps5
  go_wp2_with fail
  refine (HF.out _ HL.out).mono ?_
  rintro e w1 ⟨b, rfl, HB, HX⟩
  have HE1 : Hid (Ext w w1) := HX
  clear HX HF
  cases b with
  | false =>
    go_wp2_with fail
    refine (awake_any _).mono ?_
    rintro e w2 ⟨rfl, HX⟩
    have HEw2 : Hid (Ext w w2) := HE1.out.trans HX
    clear HX
    go_wp2
    go_ret
    exact ⟨rfl, HEw2.out⟩
  | true =>
    have hn : n ≤ 1000 := Nat.le_trans (HB rfl).1 (by decide)
    obtain ⟨t, m, H1, H2⟩ : ∃ (t : ByteArray) (m : Int), Hid (∀ W, LiesT W v n L → Calls Try.prog 19 #[v] W fun e w' => e = .returned (.tuple #[.string t, .int .i64 m]) ∧ Ext W w') ∧ Hid (∀ W, LiesT W v n L → Calls Try.prog 20 #[v] W fun e w' => e = .returned (.tuple #[.string t, .int .i64 m]) ∧ Ext W w') := by
      by_cases hk : lgOk L n
      · exact ⟨_, _, fun W h => clog_good v n L hn hk W h, fun W h => rlog_good v n L hn hk W h⟩
      · exact ⟨_, _, fun W h => clog_bad v n L hn hk W h, fun W h => rlog_bad v n L hn hk W h⟩
    clear hn HB
    go_wp2_with fail
    refine (H1.out _ (HL.out.ext HE1.out)).mono ?_
    rintro e w2 ⟨rfl, HX⟩
    have HEw2 : Hid (Ext w w2) := HE1.out.trans HX
    clear HX
    go_wp2_with fail
    refine (H2.out _ (HL.out.ext HEw2.out)).mono ?_
    rintro e w3 ⟨rfl, HX⟩
    have HEw3 : Hid (Ext w w3) := HEw2.out.trans HX
    clear HX
    go_wp2_with fail
    refine (awake_any _).mono ?_
    rintro e w4 ⟨rfl, HX⟩
    have HEw4 : Hid (Ext w w4) := HEw3.out.trans HX
    clear HX
    go_wp2
    go_ret
    exact ⟨rfl, HEw4.out⟩
end Go.Proofs.Ytenkfbfiombpkaa

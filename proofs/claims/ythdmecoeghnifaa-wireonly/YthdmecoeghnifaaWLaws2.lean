/-
  The laws of layer 16, called: true for every input; nothing old is turned.
-/
import Derived.Test.YthdmecoeghnifaaWLaws
namespace Go.Proofs.Ythdmecoeghnifaa
open Go.RowKit
theorem lsT_lies {w : World} {u : Value} {n : Nat} {L : Nat → ByteArray} (h : LiesT w u (lsT L n).length (fun k => (lsT L n).getD k ⟨#[]⟩)) : LiesT w u n L := by
  have e : (lsT L n).length = n := by simp [lsT]
  rw [e] at h
  refine h.congr fun k hk => ?_
  have hk2 : k < n := by omega
  simp [lsT, hk2]
theorem lsT_back (L : Nat → ByteArray) (n : Nat) (hz : (txN L n).size ≤ 100000) : rd (txN L n) 0 = some (lsT L n) := by
  refine rd_back _ fun x hx => ?_
  obtain ⟨k, hk, rfl⟩ := List.mem_map.1 hx
  have hk2 := List.mem_range.1 hk
  have := txN_mono L (show k + 1 ≤ n from hk2)
  have := txN_size L k
  omega
set_option maxHeartbeats 2000000 in
theorem wireBack_any (v : Value) (n : Nat) (L : Nat → ByteArray) (hn : n ≤ maxLen) (s : ByteArray) (hs : s.size ≤ maxLen) (w : World) (hL : LiesT w v n L) :
    Calls Try.prog 5 #[v, .string s] w fun e w' => e = .returned (.bool true) ∧ Ext w w' := by
  have HF : Hid (∀ W, LiesT W v n L → Calls Try.prog 9 #[v] W fun e w' => FewP L n W e w') := fun W h => few_any v n L hn W h
  have HL : Hid (LiesT w v n L) := hL
  clear hn hL
  unfold maxLen at hs
  go_enter Try.func5, Try.ntmps5
  go_wp2_with fail
  refine (HF.out _ HL.out).mono ?_
  rintro e w1 ⟨b, rfl, HB, HX⟩
  have HE1 : Hid (Ext w w1) := HX
  clear HX HF
  cases b with
  | false =>
    go_wp2_with fail
    refine (awake_any _).mono ?_
    rintro e w2 ⟨rfl, HX⟩
    have HEw2 : Hid (Ext w w2) := HE1.out.trans HX
    clear HX
    go_wp2
    go_ret
    exact ⟨rfl, HEw2.out⟩
  | true =>
    by_cases h5 : 20000 < s.size
    · have h6 : (20000 : Int) < (s.size : Int) := by omega
      go_wp2_with fail
      refine (awake_any _).mono ?_
      rintro e w2 ⟨rfl, HX⟩
      have HEw2 : Hid (Ext w w2) := HE1.out.trans HX
      clear HX
      go_wp2
      go_ret
      exact ⟨rfl, HEw2.out⟩
    · have h6 : ¬ (20000 : Int) < (s.size : Int) := by omega
      have Hs : Hid (s.size ≤ 100000) := by show _ ≤ _; omega
      have Hz : Hid ((txN L n).size ≤ 100000) := Nat.le_trans (Nat.le_of_lt (HB rfl)) (by decide)
      have Hn : Hid (n ≤ 100000) := by have := txN_len L n; have := Hz.out; show _ ≤ _; omega
      have Hr : Hid (rd (txN L n) 0 = some (lsT L n)) := lsT_back L n Hz.out
      have Ha : Hid (∀ W, LiesT W v n L → Calls Try.prog 13 #[v] W fun e w' => e = .returned (.string (txN L n)) ∧ Ext W w') := fun W h => wtexts_any _ n L Hz.out W h
      have Hb : Hid (∀ W, Calls Try.prog 15 #[.string (txN L n)] W fun e w' => ∃ u, e = .returned (.tuple #[u, .int .i64 0]) ∧ LiesT w' u n L ∧ Ext W w') := fun W => (wread_some Hz.out Hr.out W).mono fun e w' ⟨u, h1, h2, h3⟩ => ⟨u, h1, lsT_lies h2, h3⟩
      clear HB Hr Hz
      generalize txN L n = T at *
      cases hr : rd s 0 with
      | none =>
        have H1 : Hid (∀ W, Calls Try.prog 15 #[.string s] W _) := fun W => wread_none Hs.out hr W
        go_wp2_with fail
        refine (Ha.out _ (HL.out.ext HE1.out)).mono ?_
        rintro e w2 ⟨rfl, HX⟩
        have HE2 : Hid (Ext w w2) := HE1.out.trans HX
        clear HX
        go_wp2_with fail
        refine (Hb.out _).mono ?_
        rintro e w3 ⟨u3, rfl, HL3, HX⟩
        have HE3 : Hid (Ext w w3) := HE2.out.trans HX
        have HLa : Hid (LiesT w3 u3 n L) := HL3
        clear HX HL3
        go_wp2_with fail
        refine (H1.out _).mono ?_
        rintro e w4 ⟨u4, rfl, HL4, HX⟩
        have HE4 : Hid (Ext w w4) := HE3.out.trans HX
        have HLb : Hid (LiesT w4 u3 n L) := HLa.out.ext HX
        have HLc : Hid (LiesT w4 u4 _ _) := HL4
        clear HX HL4 HLa
        go_wp2_with fail
        refine (rsame_any v u3 n L Hn.out _ (HL.out.ext HE4.out) HLb.out).mono ?_
        rintro e w5 ⟨rfl, HX⟩
        have HE5 : Hid (Ext w w5) := HE4.out.trans HX
        have HLd : Hid (LiesT w5 u4 _ _) := HLc.out.ext HX
        clear HX HLc HLb
        go_wp2_with fail
        refine (awake_any _).mono ?_
        rintro e w7 ⟨rfl, HX⟩
        have HEw7 : Hid (Ext w w7) := HE5.out.trans HX
        clear HX
        go_wp2
        go_ret
        exact ⟨rfl, HEw7.out⟩
      | some l =>
        have H1 : Hid (∀ W, Calls Try.prog 15 #[.string s] W _) := fun W => wread_some Hs.out hr W
        have H2 : Hid (∀ W u, LiesT W u l.length (fun k => l.getD k ⟨#[]⟩) → Calls Try.prog 13 #[u] W fun e w' => e = .returned (.string s) ∧ Ext W w') := fun W u h => by
          have hz : (txN (fun k => l.getD k ⟨#[]⟩) l.length) = s := by unfold txN; rw [lsT_getD]; exact rd_only hr
          have := wtexts_any u l.length _ (by rw [hz]; exact Hs.out) W h
          rw [hz] at this
          exact this
        go_wp2_with fail
        refine (Ha.out _ (HL.out.ext HE1.out)).mono ?_
        rintro e w2 ⟨rfl, HX⟩
        have HE2 : Hid (Ext w w2) := HE1.out.trans HX
        clear HX
        go_wp2_with fail
        refine (Hb.out _).mono ?_
        rintro e w3 ⟨u3, rfl, HL3, HX⟩
        have HE3 : Hid (Ext w w3) := HE2.out.trans HX
        have HLa : Hid (LiesT w3 u3 n L) := HL3
        clear HX HL3
        go_wp2_with fail
        refine (H1.out _).mono ?_
        rintro e w4 ⟨u4, rfl, HL4, HX⟩
        have HE4 : Hid (Ext w w4) := HE3.out.trans HX
        have HLb : Hid (LiesT w4 u3 n L) := HLa.out.ext HX
        have HLc : Hid (LiesT w4 u4 _ _) := HL4
        clear HX HL4 HLa
        go_wp2_with fail
        refine (rsame_any v u3 n L Hn.out _ (HL.out.ext HE4.out) HLb.out).mono ?_
        rintro e w5 ⟨rfl, HX⟩
        have HE5 : Hid (Ext w w5) := HE4.out.trans HX
        have HLd : Hid (LiesT w5 u4 _ _) := HLc.out.ext HX
        clear HX HLc HLb
        go_wp2_with fail
        refine (H2.out _ _ HLd.out).mono ?_
        rintro e w6 ⟨rfl, HX⟩
        have HE6 : Hid (Ext w w6) := HE5.out.trans HX
        clear HX
        go_wp2_with fail
        refine (awake_any _).mono ?_
        rintro e w7 ⟨rfl, HX⟩
        have HEw7 : Hid (Ext w w7) := HE6.out.trans HX
        clear HX
        go_wp2
        go_ret
        exact ⟨rfl, HEw7.out⟩
set_option maxHeartbeats 4000000 in
theorem wireCommands_any (k e : Int) (nm bd : ByteArray) (s : ByteArray) (hnm : nm.size ≤ maxLen) (hbd : bd.size ≤ maxLen) (hs : s.size ≤ maxLen) (w : World) :
    Calls Try.prog 6 #[.agg #[.int .i64 k, .int .i64 e, .string nm, .string bd], .string s] w fun ex w' => ex = .returned (.bool true) ∧ Ext w w' := by
  have HE0 : Hid (Ext w (w.alloc (.cells #[.int .i64 k, .int .i64 e, .string nm, .string bd] 36))) := (Ext.refl w).alloc _
  unfold maxLen at hnm hbd hs
  by_cases bnm : 20000 < nm.size
  · have cnm : (20000 : Int) < (nm.size : Int) := by omega
    go_enter Try.func6, Try.ntmps6
    go_wp2_with fail
    refine (awake_any _).mono ?_
    rintro ex w1 ⟨rfl, HX⟩
    have HEw1 : Hid (Ext w w1) := HE0.out.trans HX
    clear HX
    go_wp2
    go_ret
    exact ⟨rfl, HEw1.out⟩
  · have cnm : ¬ (20000 : Int) < (nm.size : Int) := by omega
    by_cases bbd : 20000 < bd.size
    · have cbd : (20000 : Int) < (bd.size : Int) := by omega
      go_enter Try.func6, Try.ntmps6
      go_wp2_with fail
      refine (awake_any _).mono ?_
      rintro ex w1 ⟨rfl, HX⟩
      have HEw1 : Hid (Ext w w1) := HE0.out.trans HX
      clear HX
      go_wp2
      go_ret
      exact ⟨rfl, HEw1.out⟩
    · have cbd : ¬ (20000 : Int) < (bd.size : Int) := by omega
      by_cases bs : 20000 < s.size
      · have cs : (20000 : Int) < (s.size : Int) := by omega
        go_enter Try.func6, Try.ntmps6
        go_wp2_with fail
        refine (awake_any _).mono ?_
        rintro ex w1 ⟨rfl, HX⟩
        have HEw1 : Hid (Ext w w1) := HE0.out.trans HX
        clear HX
        go_wp2
        go_ret
        exact ⟨rfl, HEw1.out⟩
      · have cs : ¬ (20000 : Int) < (s.size : Int) := by omega
        have Hs : Hid (s.size ≤ 100000) := by show _ ≤ _; omega
        obtain ⟨t, m, H1, H2⟩ : ∃ (t : ByteArray) (m : Int), Hid (∀ W, Calls Try.prog 18 #[.agg #[.int .i64 k, .int .i64 e, .string nm, .string bd]] W fun ex w' => ex = .returned (.tuple #[.string t, .int .i64 m]) ∧ Ext W w') ∧ Hid (∀ W, Calls Try.prog 19 #[.agg #[.int .i64 k, .int .i64 e, .string nm, .string bd]] W fun ex w' => ex = .returned (.tuple #[.string t, .int .i64 m]) ∧ Ext W w') := by
          cases hok : cmdOk k e nm bd with
          | true => exact ⟨_, _, fun W => wcmd_good k e nm bd hok W, fun W => rcmd_good k e nm bd hok W⟩
          | false => exact ⟨_, _, fun W => wcmd_bad k e nm bd hok W, fun W => rcmd_bad k e nm bd hok W⟩
        obtain ⟨k2, e2, nm2, bd2, m2, hv⟩ := wrdC_form s
        have H3 : Hid (∀ W, Calls Try.prog 20 #[.string s] W fun ex w' => ex = .returned (.tuple #[.agg #[.int .i64 k2, .int .i64 e2, .string nm2, .string bd2], .int .i64 m2]) ∧ Ext W w') := fun W => by rw [← hv]; exact wrdC_any s Hs.out W
        have H4 : Hid (∀ W, Calls Try.prog 21 #[.string s] W fun ex w' => ex = .returned (.tuple #[.agg #[.int .i64 k2, .int .i64 e2, .string nm2, .string bd2], .int .i64 m2]) ∧ Ext W w') := fun W => by rw [← hv]; exact rrdC_any s Hs.out W
        clear hv
        have HR0 : Hid _ := new4 w (.int .i64 k) (.int .i64 e) (.string nm) (.string bd) 36
        go_enter Try.func6, Try.ntmps6
        go_wp2_with fail
        refine (H1.out _).mono ?_
        rintro ex w1 ⟨rfl, HX⟩
        have HE1 : Hid (Ext w w1) := HE0.out.trans HX
        have HT1 : Hid (T4 w1 w.heap.size (.int .i64 k) (.int .i64 e) (.string nm) (.string bd)) := (keepT4 HX HR0.out).2
        have HB1 : Hid (w.heap.size < w1.heap.size) := Nat.lt_of_lt_of_le (by simp) HX.size
        clear HX HR0 HE0
        generalize w.heap.size = b0 at *
        obtain ⟨p0, p1, p2, p3⟩ := HT1.out
        go_wp2_with fail
        refine (H2.out _).mono ?_
        rintro ex w2 ⟨rfl, HX⟩
        have HE2 : Hid (Ext w w2) := HE1.out.trans HX
        clear HX HT1 p0 p1 p2 p3
        go_wp2_with fail
        refine (H3.out _).mono ?_
        rintro ex w3 ⟨rfl, HX⟩
        have HE3 : Hid (Ext w w3) := HE2.out.trans HX
        clear HX
        have HR3 : Hid _ := new4 w3 (.int .i64 k2) (.int .i64 e2) (.string nm2) (.string bd2) 36
        go_wp2_with fail
        refine (H4.out _).mono ?_
        rintro ex w4 ⟨rfl, HX⟩
        have HE4 : Hid (Ext w w4) := (HE3.out.alloc _).trans HX
        have HT4 : Hid (T4 w4 w3.heap.size (.int .i64 k2) (.int .i64 e2) (.string nm2) (.string bd2)) := (keepT4 HX HR3.out).2
        have HB4 : Hid (w3.heap.size < w4.heap.size) := Nat.lt_of_lt_of_le (by simp) HX.size
        clear HX HR3
        generalize w3.heap.size = b1 at *
        obtain ⟨p0, p1, p2, p3⟩ := HT4.out
        have hb4 := HB4.out
        go_wp2_with fail
        refine (awake_any _).mono ?_
        rintro ex w5 ⟨rfl, HX⟩
        have HEw5 : Hid (Ext w w5) := (HE4.out.alloc _).trans HX
        clear HX
        go_wp2
        go_ret
        exact ⟨rfl, HEw5.out⟩
set_option maxHeartbeats 4000000 in
theorem wireWords_any (k f r v : Int) (x : ByteArray) (s : ByteArray) (hx : x.size ≤ maxLen) (hs : s.size ≤ maxLen) (w : World) :
    Calls Try.prog 7 #[.agg #[.int .i64 k, .int .i64 f, .int .i64 r, .int .i64 v, .string x], .string s] w fun ex w' => ex = .returned (.bool true) ∧ Ext w w' := by
  have HE0 : Hid (Ext w (w.alloc (.cells #[.int .i64 k, .int .i64 f, .int .i64 r, .int .i64 v, .string x] 47))) := (Ext.refl w).alloc _
  unfold maxLen at hx hs
  by_cases bx : 20000 < x.size
  · have cx : (20000 : Int) < (x.size : Int) := by omega
    go_enter Try.func7, Try.ntmps7
    go_wp2_with fail
    refine (awake_any _).mono ?_
    rintro ex w1 ⟨rfl, HX⟩
    have HEw1 : Hid (Ext w w1) := HE0.out.trans HX
    clear HX
    go_wp2
    go_ret
    exact ⟨rfl, HEw1.out⟩
  · have cx : ¬ (20000 : Int) < (x.size : Int) := by omega
    by_cases bs : 20000 < s.size
    · have cs : (20000 : Int) < (s.size : Int) := by omega
      go_enter Try.func7, Try.ntmps7
      go_wp2_with fail
      refine (awake_any _).mono ?_
      rintro ex w1 ⟨rfl, HX⟩
      have HEw1 : Hid (Ext w w1) := HE0.out.trans HX
      clear HX
      go_wp2
      go_ret
      exact ⟨rfl, HEw1.out⟩
    · have cs : ¬ (20000 : Int) < (s.size : Int) := by omega
      have Hs : Hid (s.size ≤ 100000) := by show _ ≤ _; omega
      obtain ⟨t, m, H1, H2⟩ : ∃ (t : ByteArray) (m : Int), Hid (∀ W, Calls Try.prog 22 #[.agg #[.int .i64 k, .int .i64 f, .int .i64 r, .int .i64 v, .string x]] W fun ex w' => ex = .returned (.tuple #[.string t, .int .i64 m]) ∧ Ext W w') ∧ Hid (∀ W, Calls Try.prog 23 #[.agg #[.int .i64 k, .int .i64 f, .int .i64 r, .int .i64 v, .string x]] W fun ex w' => ex = .returned (.tuple #[.string t, .int .i64 m]) ∧ Ext W w') := by
        cases hok : wrdOk k f r v x with
        | true => exact ⟨_, _, fun W => wwrd_good k f r v x hok W, fun W => rwrd_good k f r v x hok W⟩
        | false => exact ⟨_, _, fun W => wwrd_bad k f r v x hok W, fun W => rwrd_bad k f r v x hok W⟩
      obtain ⟨k2, f2, r2, v2, x2, m2, hv⟩ := wrdW_form s
      have H3 : Hid (∀ W, Calls Try.prog 24 #[.string s] W fun ex w' => ex = .returned (.tuple #[.agg #[.int .i64 k2, .int .i64 f2, .int .i64 r2, .int .i64 v2, .string x2], .int .i64 m2]) ∧ Ext W w') := fun W => by rw [← hv]; exact wrdW_any s Hs.out W
      have H4 : Hid (∀ W, Calls Try.prog 25 #[.string s] W fun ex w' => ex = .returned (.tuple #[.agg #[.int .i64 k2, .int .i64 f2, .int .i64 r2, .int .i64 v2, .string x2], .int .i64 m2]) ∧ Ext W w') := fun W => by rw [← hv]; exact rrdW_any s Hs.out W
      clear hv
      have HR0 : Hid _ := new5 w (.int .i64 k) (.int .i64 f) (.int .i64 r) (.int .i64 v) (.string x) 47 rfl
      go_enter Try.func7, Try.ntmps7
      go_wp2_with fail
      refine (H1.out _).mono ?_
      rintro ex w1 ⟨rfl, HX⟩
      have HE1 : Hid (Ext w w1) := HE0.out.trans HX
      have HT1 : Hid (T5 w1 w.heap.size (.int .i64 k) (.int .i64 f) (.int .i64 r) (.int .i64 v) (.string x)) := (keepT5 HX HR0.out).2
      have HB1 : Hid (w.heap.size < w1.heap.size) := Nat.lt_of_lt_of_le (by simp) HX.size
      clear HX HR0 HE0
      generalize w.heap.size = b0 at *
      obtain ⟨⟨p0, p1, p2, p3⟩, p4⟩ := HT1.out
      go_wp2_with fail
      refine (H2.out _).mono ?_
      rintro ex w2 ⟨rfl, HX⟩
      have HE2 : Hid (Ext w w2) := HE1.out.trans HX
      clear HX HT1 p0 p1 p2 p3 p4
      go_wp2_with fail
      refine (H3.out _).mono ?_
      rintro ex w3 ⟨rfl, HX⟩
      have HE3 : Hid (Ext w w3) := HE2.out.trans HX
      clear HX
      have HR3 : Hid _ := new5 w3 (.int .i64 k2) (.int .i64 f2) (.int .i64 r2) (.int .i64 v2) (.string x2) 47 rfl
      go_wp2_with fail
      refine (H4.out _).mono ?_
      rintro ex w4 ⟨rfl, HX⟩
      have HE4 : Hid (Ext w w4) := (HE3.out.alloc _).trans HX
      have HT4 : Hid (T5 w4 w3.heap.size (.int .i64 k2) (.int .i64 f2) (.int .i64 r2) (.int .i64 v2) (.string x2)) := (keepT5 HX HR3.out).2
      have HB4 : Hid (w3.heap.size < w4.heap.size) := Nat.lt_of_lt_of_le (by simp) HX.size
      clear HX HR3
      generalize w3.heap.size = b1 at *
      obtain ⟨⟨p0, p1, p2, p3⟩, p4⟩ := HT4.out
      have hb4 := HB4.out
      go_wp2_with fail
      refine (awake_any _).mono ?_
      rintro ex w5 ⟨rfl, HX⟩
      have HEw5 : Hid (Ext w w5) := (HE4.out.alloc _).trans HX
      clear HX
      go_wp2
      go_ret
      exact ⟨rfl, HEw5.out⟩
end Go.Proofs.Ythdmecoeghnifaa

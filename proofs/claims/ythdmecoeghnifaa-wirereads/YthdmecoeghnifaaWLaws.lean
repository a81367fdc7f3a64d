/-
  The laws of layer 16, called: true for every input; nothing old is turned.
-/
import Derived.Test.YthdmecoeghnifaaWAwake
namespace Go.Proofs.Ythdmecoeghnifaa
open Go.RowKit
theorem rd_count {s : ByteArray} {l : List ByteArray} (h : rd s 0 = some l) : l.length ≤ s.size := by
  rw [← rd_only h]
  have : ∀ l : List ByteArray, l.length ≤ (txs l).size := fun l => by
    induction l with
    | nil => exact Nat.zero_le _
    | cons x l ih =>
      show l.length + 1 ≤ (txt x ++ txs l).size
      rw [ByteArray.size_append, txt_size]
      omega
  exact this l
set_option maxHeartbeats 2000000 in
theorem wireReads_any (s : ByteArray) (hs : s.size ≤ maxLen) (w : World) :
    Calls Try.prog 4 #[.string s] w fun e w' => e = .returned (.bool true) ∧ Ext w w' := by
  have HE0 : Hid (Ext w w) := Ext.refl w
  unfold maxLen at hs
  by_cases h5 : 20000 < s.size
  · have h6 : (20000 : Int) < (s.size : Int) := by omega
    go_enter Try.func4, Try.ntmps4
    go_wp2_with fail
    refine (awake_any _).mono ?_
    rintro e w1 ⟨rfl, HX⟩
    have HEw1 : Hid (Ext w w1) := HE0.out.trans HX
    clear HX
    go_wp2
    go_ret
    exact ⟨rfl, HEw1.out⟩
  · have h6 : ¬ (20000 : Int) < (s.size : Int) := by omega
    have Hs : Hid (s.size ≤ 100000) := by show _ ≤ _; omega
    cases hr : rd s 0 with
    | none =>
      have H1 : Hid (∀ W, Calls Try.prog 15 #[.string s] W _) := fun W => wread_none Hs.out hr W
      have H2 : Hid (∀ W, Calls Try.prog 16 #[.string s] W _) := fun W => rread_none Hs.out hr W
      have HLn : Hid (0 ≤ 100000) := Nat.zero_le _
      go_enter Try.func4, Try.ntmps4
      go_wp2_with fail
      refine (H1.out _).mono ?_
      rintro e w1 ⟨u1, rfl, HL1, HX⟩
      have HE1 : Hid (Ext w w1) := HX
      have HLa : Hid (LiesT w1 u1 0 _) := HL1
      clear HX HL1
      go_wp2_with fail
      refine (H2.out _).mono ?_
      rintro e w2 ⟨u2, rfl, HL2, HX⟩
      have HE2 : Hid (Ext w w2) := HE1.out.trans HX
      have HLb : Hid (LiesT w2 u1 0 _) := HLa.out.ext HX
      have HLc : Hid (LiesT w2 u2 0 _) := HL2
      clear HX HL2 HLa
      go_wp2_with fail
      refine (rsame_any u1 u2 0 _ HLn.out _ HLb.out HLc.out).mono ?_
      rintro e w3 ⟨rfl, HX⟩
      have HE3 : Hid (Ext w w3) := HE2.out.trans HX
      clear HX
      go_wp2_with fail
      refine (awake_any _).mono ?_
      rintro e w4 ⟨rfl, HX⟩
      have HEw4 : Hid (Ext w w4) := HE3.out.trans HX
      clear HX
      go_wp2
      go_ret
      exact ⟨rfl, HEw4.out⟩
    | some l =>
      have H1 : Hid (∀ W, Calls Try.prog 15 #[.string s] W _) := fun W => wread_some Hs.out hr W
      have H2 : Hid (∀ W, Calls Try.prog 16 #[.string s] W _) := fun W => rread_some Hs.out hr W
      have HLn : Hid (l.length ≤ 100000) := Nat.le_trans (rd_count hr) Hs.out
      go_enter Try.func4, Try.ntmps4
      go_wp2_with fail
      refine (H1.out _).mono ?_
      rintro e w1 ⟨u1, rfl, HL1, HX⟩
      have HE1 : Hid (Ext w w1) := HX
      have HLa : Hid (LiesT w1 u1 l.length _) := HL1
      clear HX HL1
      go_wp2_with fail
      refine (H2.out _).mono ?_
      rintro e w2 ⟨u2, rfl, HL2, HX⟩
      have HE2 : Hid (Ext w w2) := HE1.out.trans HX
      have HLb : Hid (LiesT w2 u1 l.length _) := HLa.out.ext HX
      have HLc : Hid (LiesT w2 u2 l.length _) := HL2
      clear HX HL2 HLa
      go_wp2_with fail
      refine (rsame_any u1 u2 l.length _ HLn.out _ HLb.out HLc.out).mono ?_
      rintro e w3 ⟨rfl, HX⟩
      have HE3 : Hid (Ext w w3) := HE2.out.trans HX
      clear HX
      go_wp2_with fail
      refine (awake_any _).mono ?_
      rintro e w4 ⟨rfl, HX⟩
      have HEw4 : Hid (Ext w w4) := HE3.out.trans HX
      clear HX
      go_wp2
      go_ret
      exact ⟨rfl, HEw4.out⟩
theorem Lies.get {w : World} {a : Option Addr} {cap n k : Nat} {g : Nat → Value} (h : Lies w (.slice a n cap) n 1 g) (hk : k < n) : ∃ b o, a = some ⟨b, o, none⟩ ∧ b < w.heap.size ∧ w.cell? ⟨b, o + k, none⟩ = some (g k) := by
  obtain ⟨a', cap', hv, hc⟩ := h
  cases hv
  obtain ⟨b, o, ha, hb, hc⟩ := hc (by omega)
  exact ⟨b, o, ha, hb, hc k (by omega)⟩
theorem lp_nums (k n : Nat) (hk : k < n) (hn : n ≤ 100000) : (k : Int) < (n : Int) ∧ (0 : Int) ≤ (k : Int) ∧ IntKind.i64.wrap ((k : Int) + 1) = (k : Int) + 1 := by
  refine ⟨?_, ?_, ?_⟩ <;> (try rw [IntKind.wrap_i64]) <;> omega
theorem lp_meas {k n : Nat} (h : k < n) : n - (intOf (.int .i64 ((k : Int) + 1))).toNat < n - (intOf (.int .i64 (k : Int))).toNat := by simp [intOf]; omega
theorem keepC {W0 wx : World} {p : Addr} {v : Value} (h : Ext W0 wx) (r : W0.cell? p = some v) : Ext W0 wx ∧ wx.cell? p = some v := ⟨h, later h r⟩
set_option maxHeartbeats 2000000 in
theorem wireTexts_any (v : Value) (n : Nat) (L : Nat → ByteArray) (hn : n ≤ maxLen) (w : World) (hL : LiesT w v n L) :
    Calls Try.prog 3 #[v] w fun e w' => e = .returned (.bool true) ∧ Ext w w' := by
  have HF : Hid (∀ W, LiesT W v n L → Calls Try.prog 9 #[v] W fun e w' => FewP L n W e w') := fun W h => few_any v n L hn W h
  obtain ⟨a, cap, rfl, hc⟩ := hL
  have HL : Hid (LiesT w (.slice a n cap) n L) := ⟨a, cap, rfl, hc⟩
  have HN : Hid (n ≤ maxLen) := hn
  clear hc hn
  go_enter Try.func3, Try.ntmps3
  go_wp2_with fail
  refine (HF.out _ HL.out).mono ?_
  rintro e w1 ⟨b, rfl, HB, HX⟩
  have HE1 : Hid (Ext w w1) := HX
  clear HX HF
  cases b with
  | false =>
    go_wp2_with fail
    refine (awake_any _).mono ?_
    rintro e w2 ⟨rfl, HX⟩
    have HEw2 : Hid (Ext w w2) := HE1.out.trans HX
    clear HX
    go_wp2
    go_ret
    exact ⟨rfl, HEw2.out⟩
  | true =>
    have Hz : Hid ((txN L n).size ≤ 100000) := Nat.le_trans (Nat.le_of_lt (HB rfl)) (by decide)
    have Hn : Hid (n ≤ 100000) := by have := txN_len L n; have := Hz.out; show _ ≤ _; omega
    have HT : Hid (∀ k, k < n → (L k).size ≤ 100000) := fun k hk => by have := txN_mono L (show k + 1 ≤ n from hk); have := txN_size L k; have := Hz.out; omega
    clear HB
    go_wp2
    go_loopw [3] (fun u3 wr => ∃ k : Nat, k ≤ n ∧ u3 = .int .i64 k ∧ Hid (Ext w wr)) (fun u3 _ => n - (intOf u3).toNat)
    case atStart => exact ⟨0, Nat.zero_le _, rfl, HE1⟩
    case round =>
      obtain ⟨k, hk, rfl, HE⟩ := hrel
      clear HE1
      by_cases hlt : k < n
      · obtain ⟨h1, h0, hw⟩ := lp_nums k n hlt Hn.out
        obtain ⟨g, o, rfl, hb, hcell⟩ := (HL.out.ext HE.out).get hlt
        obtain ⟨W0, HW0⟩ : ∃ W0, Hid (wr = W0) := ⟨_, rfl⟩
        have Hc : Hid (wr.cell? ⟨g, o + k, none⟩ = some (.string (L k))) := hcell
        have Ha : Hid (∀ W, Calls Try.prog 11 #[.string (L k)] W fun e w' => e = .returned (.string (txt (L k))) ∧ Ext W w') := fun W => wtext_any _ (HT.out k hlt) W
        have Hb : Hid (∀ W, Calls Try.prog 12 #[.string (L k)] W fun e w' => e = .returned (.string (txt (L k))) ∧ Ext W w') := fun W => rtext_any _ (HT.out k hlt) W
        generalize txt (L k) = X at *
        clear hb hcell
        go_wp2_with fail
        go_region_held3 (fun wx : World => Ext wr wx ∧ wx.cell? ⟨g, o + k, none⟩ = some (.string (L k))) (first | exact keepC (Ext.refl _) Hc.out | exact keepC (Ext.drew (Ext.refl _)) Hc.out | exact keepC (by assumption) Hc.out) (first | (go_at_call 11; with_reducible refine (Ha.out _).mono ?_; rintro e wy ⟨rfl, HX⟩; have hEy : Ext wr wy := (by refine Ext.trans ?_ HX; simp only [*])) | (go_at_call 12; with_reducible refine (Hb.out _).mono ?_; rintro e wy ⟨rfl, HX⟩; have hEy : Ext wr wy := (by refine Ext.trans ?_ HX; simp only [*])))
        have HEy : Hid (Ext w wy) := HE.out.trans hEy
        go_wp2
        go_roundw
        case rel => exact ⟨k + 1, hlt, by push_cast; rfl, HEy⟩
        case measure => exact lp_meas hlt
      · obtain rfl : k = n := by omega
        have hnl : ¬ (k : Int) < (k : Int) := by omega
        have Ha : Hid (∀ W, LiesT W (.slice a k cap) k L → Calls Try.prog 13 #[.slice a k cap] W fun e w' => e = .returned (.string (txN L k)) ∧ Ext W w') := fun W h => wtexts_any _ k L Hz.out W h
        have Hb : Hid (∀ W, LiesT W (.slice a k cap) k L → Calls Try.prog 14 #[.slice a k cap] W fun e w' => e = .returned (.string (txN L k)) ∧ Ext W w') := fun W h => rtexts_any _ k L Hz.out W h
        generalize txN L k = X at *
        go_wp2_with fail
        refine (Ha.out _ (HL.out.ext HE.out)).mono ?_
        rintro e w3 ⟨rfl, HX⟩
        have HE3 : Hid (Ext w w3) := HE.out.trans HX
        clear HX
        go_wp2_with fail
        refine (Hb.out _ (HL.out.ext HE3.out)).mono ?_
        rintro e w4 ⟨rfl, HX⟩
        have HE4 : Hid (Ext w w4) := HE3.out.trans HX
        clear HX
        go_wp2_with fail
        refine (awake_any _).mono ?_
        rintro e w5 ⟨rfl, HX⟩
        have HEw5 : Hid (Ext w w5) := HE4.out.trans HX
        clear HX
        go_wp2
        go_ret
        exact ⟨rfl, HEw5.out⟩
end Go.Proofs.Ythdmecoeghnifaa

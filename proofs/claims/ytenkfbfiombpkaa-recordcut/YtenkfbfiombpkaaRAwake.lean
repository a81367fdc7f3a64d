/-
  sandglasslaw17.awake, few, called; nothing old is turned.
-/
import Derived.Test.YtenkfbfiombpkaaRFace
namespace Go.Proofs.Ytenkfbfiombpkaa
open Go.RowKit
theorem lgN_getD (xs : List ByteArray) : lgN (fun k => xs.getD k ⟨#[]⟩) xs.length = lg xs := by unfold lgN; rw [lsT_getD]
/-- Log of a list that may be a log. -/
theorem clog_good (v : Value) (n : Nat) (L : Nat → ByteArray) (hn : n ≤ 1000) (hk : lgOk L n) (w : World) (hL : LiesT w v n L) :
    Calls Try.prog 19 #[v] w fun e w' => e = .returned (.tuple #[.string (lgN L n), .int .i64 0]) ∧ Ext w w' := by
  refine (clog_any v n L hn w hL).mono ?_
  rintro e w' ⟨⟨_, rfl⟩ | ⟨h, _⟩, HX⟩
  · exact ⟨rfl, HX⟩
  · exact absurd hk h
theorem clog_bad (v : Value) (n : Nat) (L : Nat → ByteArray) (hn : n ≤ 1000) (hk : ¬ lgOk L n) (w : World) (hL : LiesT w v n L) :
    Calls Try.prog 19 #[v] w fun e w' => e = .returned (.tuple #[.string ⟨#[]⟩, .int .i64 2]) ∧ Ext w w' := by
  refine (clog_any v n L hn w hL).mono ?_
  rintro e w' ⟨⟨h, _⟩ | ⟨_, rfl⟩, HX⟩
  · exact absurd h hk
  · exact ⟨rfl, HX⟩
theorem rlog_good (v : Value) (n : Nat) (L : Nat → ByteArray) (hn : n ≤ 1000) (hk : lgOk L n) (w : World) (hL : LiesT w v n L) :
    Calls Try.prog 20 #[v] w fun e w' => e = .returned (.tuple #[.string (lgN L n), .int .i64 0]) ∧ Ext w w' := by
  refine (rlog_any v n L hn w hL).mono ?_
  rintro e w' ⟨⟨_, rfl⟩ | ⟨h, _⟩, HX⟩
  · exact ⟨rfl, HX⟩
  · exact absurd hk h
theorem rlog_bad (v : Value) (n : Nat) (L : Nat → ByteArray) (hn : n ≤ 1000) (hk : ¬ lgOk L n) (w : World) (hL : LiesT w v n L) :
    Calls Try.prog 20 #[v] w fun e w' => e = .returned (.tuple #[.string ⟨#[]⟩, .int .i64 2]) ∧ Ext w w' := by
  refine (rlog_any v n L hn w hL).mono ?_
  rintro e w' ⟨⟨h, _⟩ | ⟨_, rfl⟩, HX⟩
  · exact absurd h hk
  · exact ⟨rfl, HX⟩
/-- Prefix, what it tells given. -/
theorem cprefix_of {s : ByteArray} {l : List ByteArray} {n : Nat} (hs : s.size ≤ 100000) (h : pf s 0 = (l, n)) (w : World) :
    Calls Try.prog 15 #[.string s] w fun e w' => ∃ u, e = .returned (.tuple #[u, .int .i64 (n : Int)]) ∧ LiesT w' u l.length (fun k => l.getD k ⟨#[]⟩) ∧ Ext w w' := by
  refine (cprefix_any s hs w).mono ?_
  rintro e w' ⟨u, rfl, HL, HX⟩
  rw [h] at HL ⊢
  exact ⟨u, rfl, HL, HX⟩
theorem rprefix_of {s : ByteArray} {l : List ByteArray} {n : Nat} (hs : s.size ≤ 100000) (h : pf s 0 = (l, n)) (w : World) :
    Calls Try.prog 16 #[.string s] w fun e w' => ∃ u, e = .returned (.tuple #[u, .int .i64 (n : Int)]) ∧ LiesT w' u l.length (fun k => l.getD k ⟨#[]⟩) ∧ Ext w w' := by
  refine (rprefix_any s hs w).mono ?_
  rintro e w' ⟨u, rfl, HL, HX⟩
  rw [h] at HL ⊢
  exact ⟨u, rfl, HL, HX⟩
theorem cnext_of {s t : ByteArray} {n : Nat} {m : Int} (hs : s.size ≤ 100000) (h : nxt s = (t, n, m)) (w : World) :
    Calls Try.prog 13 #[.string s] w fun e w' => e = .returned (.tuple #[.string t, .int .i64 (n : Int), .int .i64 m]) ∧ Ext w w' := by
  have := cnext_any s hs w
  rw [nxtV_of h] at this
  exact this
theorem rnext_of {s t : ByteArray} {n : Nat} {m : Int} (hs : s.size ≤ 100000) (h : nxt s = (t, n, m)) (w : World) :
    Calls Try.prog 14 #[.string s] w fun e w' => e = .returned (.tuple #[.string t, .int .i64 (n : Int), .int .i64 m]) ∧ Ext w w' := by
  have := rnext_any s hs w
  rw [nxtV_of h] at this
  exact this
def abS : ByteArray := ⟨#[97, 98]⟩
theorem aw_pf : pf (frm abS ++ frm abS ++ ⟨#[120]⟩) 0 = ([abS, abS], 20) := by decide +kernel
theorem aw_sum : crcN ⟨#[49, 50, 51, 52, 53, 54, 55, 56, 57]⟩ = 3808858755 := by decide +kernel
theorem aw_ok : lgOk (fun k => [abS, abS].getD k ⟨#[]⟩) 2 := by
  refine ⟨fun i hi => ?_, ?_⟩
  · have : i = 0 ∨ i = 1 := by omega
    rcases this with rfl | rfl <;> decide
  · have := lgN_getD [abS, abS]
    rw [show lgN (fun k => [abS, abS].getD k ⟨#[]⟩) 2 = lg [abS, abS] from this]
    decide +kernel
theorem aw_log : lgN (fun k => [abS, abS].getD k ⟨#[]⟩) 2 = frm abS ++ frm abS := by
  rw [show lgN (fun k => [abS, abS].getD k ⟨#[]⟩) 2 = lg [abS, abS] from lgN_getD [abS, abS]]
  show frm abS ++ (frm abS ++ ⟨#[]⟩) = _
  rw [app_nil]
set_option maxHeartbeats 4000000 in
theorem awake_any (w : World) : Calls Try.prog 8 #[] w fun e w' => e = .returned (.bool true) ∧ Ext w w' := by
  have hFz : (frm abS).size = 10 := by rw [frm_size]; rfl
  have H1 : Hid (∀ W, Calls Try.prog 9 #[.string ⟨#[97, 98]⟩] W fun e w' => e = .returned (.tuple #[.string (frm abS), .int .i64 0]) ∧ Ext W w') := fun W => cframe_good abS (by decide) W
  have H2 : Hid (∀ W, Calls Try.prog 13 #[.string (frm abS ++ ⟨#[120]⟩)] W fun e w' => e = .returned (.tuple #[.string abS, .int .i64 ((8 + abS.size : Nat) : Int), .int .i64 0]) ∧ Ext W w') := fun W => cnext_of (by rw [ByteArray.size_append, hFz]; decide) (nxt_frm abS ⟨#[120]⟩ (by decide)) W
  have h10 : ((8 + abS.size : Nat) : Int) = 10 := rfl
  rw [h10] at H2
  have H3 : Hid (∀ W, Calls Try.prog 15 #[.string (frm abS ++ frm abS ++ ⟨#[120]⟩)] W fun e w' => ∃ u, e = .returned (.tuple #[u, .int .i64 ((20 : Nat) : Int)]) ∧ LiesT w' u [abS, abS].length (fun k => [abS, abS].getD k ⟨#[]⟩) ∧ Ext W w') := fun W => cprefix_of (by rw [ByteArray.size_append, ByteArray.size_append, hFz]; decide) aw_pf W
  have H4 : Hid (∀ W, Calls Try.prog 13 #[.string ⟨#[]⟩] W fun e w' => e = .returned (.tuple #[.string ⟨#[]⟩, .int .i64 ((0 : Nat) : Int), .int .i64 2]) ∧ Ext W w') := fun W => cnext_of (by decide) (nxt_1 (by decide)) W
  have H5 : Hid (∀ (W : World) (t : TypeId), Calls Try.prog 19 #[.slice (some ⟨W.heap.size, 0, none⟩) 2 2] (W.alloc (.cells #[.string ⟨#[97, 98]⟩, .string ⟨#[97, 98]⟩] t)) fun e w' => e = .returned (.tuple #[.string (frm abS ++ frm abS), .int .i64 0]) ∧ Ext (W.alloc (.cells #[.string ⟨#[97, 98]⟩, .string ⟨#[97, 98]⟩] t)) w') := fun W t => by
    have := clog_good (.slice (some ⟨W.heap.size, 0, none⟩) 2 2) 2 (fun k => [abS, abS].getD k ⟨#[]⟩) (by decide) aw_ok _ (lies_lit W [abS, abS] t 2 _ rfl)
    rw [aw_log] at this
    exact this
  have H6 : Hid (∀ W, Calls Try.prog 11 #[.string ⟨#[49, 50, 51, 52, 53, 54, 55, 56, 57]⟩] W fun e w' => e = .returned (.int .u32 3808858755) ∧ Ext W w') := fun W => by
    have := csum_any ⟨#[49, 50, 51, 52, 53, 54, 55, 56, 57]⟩ (by decide) W
    rw [aw_sum] at this
    exact this
  have HA : Hid (abS = ⟨#[97, 98]⟩) := rfl
  generalize frm abS = F at *
  have hb1 : ¬ 9223372036854775807 < F.size + (⟨#[120]⟩ : ByteArray).size := by rw [hFz]; decide
  have hb2 : ¬ 9223372036854775807 < F.size + F.size := by rw [hFz]; decide
  have hb3 : ¬ 9223372036854775807 < F.size + F.size + (⟨#[120]⟩ : ByteArray).size := by rw [hFz]; decide
  go_enter Try.func8, Try.ntmps8
  go_wp2_with fail
  refine (H1.out _).mono ?_
  rintro e w1 ⟨rfl, HX⟩
  have HE1 : Hid (Ext w w1) := HX
  clear HX
  go_wp2_with fail
  refine (H2.out _).mono ?_
  rintro e w2 ⟨rfl, HX⟩
  rw [HA.out]
  have HE2 : Hid (Ext w w2) := HE1.out.trans HX
  clear HX HE1
  go_wp2_with fail
  refine (H3.out _).mono ?_
  rintro e w3 ⟨u, rfl, HL, HX⟩
  have HE3 : Hid (Ext w w3) := HE2.out.trans HX
  obtain ⟨a, c, rfl⟩ := liesT_len HL
  clear HX HE2 HL
  go_wp2_with fail
  refine (H4.out _).mono ?_
  rintro e w4 ⟨rfl, HX⟩
  have HE4 : Hid (Ext w w4) := HE3.out.trans HX
  clear HX HE3
  go_wp2_with fail
  refine (H5.out _ _).mono ?_
  rintro e w5 ⟨rfl, HX⟩
  have HE5 : Hid (Ext w w5) := (HE4.out.alloc _).trans HX
  clear HX HE4
  go_wp2_with fail
  refine (H6.out _).mono ?_
  rintro e w6 ⟨rfl, HX⟩
  have HE6 : Hid (Ext w w6) := HE5.out.trans HX
  clear HX HE5
  go_wp2
  go_ret
  exact ⟨rfl, HE6.out⟩
/-- What few tells. -/
def FewP (L : Nat → ByteArray) (n : Nat) (w : World) (e : Ending) (w' : World) : Prop := ∃ b, e = .returned (.bool b) ∧ (b = true → n ≤ 60 ∧ ∀ i, i < n → (L i).size ≤ 5000) ∧ Ext w w'
set_option maxHeartbeats 1000000 in
theorem few_any (v : Value) (n : Nat) (L : Nat → ByteArray) (w : World) (hL : LiesT w v n L) :
    Calls Try.prog 18 #[v] w fun e w' => FewP L n w e w' := by
  obtain ⟨a, cap, rfl, hc⟩ := hL
  have HL : Hid (LiesT w (.slice a n cap) n L) := ⟨a, cap, rfl, hc⟩
  have HE0 : Hid (Ext w w) := Ext.refl w
  clear hc
  by_cases hn : 60 < n
  · have h1 : (60 : Int) < (n : Int) := by omega
    go_enter Try.func18, Try.ntmps18
    go_wp2
    go_ret
    exact ⟨false, rfl, fun q => (by cases q), HE0.out⟩
  · have h1 : ¬ (60 : Int) < (n : Int) := by omega
    have Hn : Hid (n ≤ 100000) := by show _ ≤ _; omega
    have Hn6 : Hid (n ≤ 60) := by show _ ≤ _; omega
    clear hn
    go_enter Try.func18, Try.ntmps18
    go_wp2
    go_loopw [3] (fun u3 wr => ∃ k : Nat, k ≤ n ∧ u3 = .int .i64 k ∧ Hid (∀ i, i < k → (L i).size ≤ 5000) ∧ Hid (Ext w wr)) (fun u3 _ => n - (intOf u3).toNat)
    case atStart => exact ⟨0, Nat.zero_le _, rfl, fun i hi => absurd hi (Nat.not_lt_zero i), HE0⟩
    case round =>
      obtain ⟨k, hk, rfl, HK, HE⟩ := hrel
      clear HE0
      by_cases hlt : k < n
      · obtain ⟨q1, q0, qw⟩ := lp_nums k n hlt Hn.out
        obtain ⟨g, o, rfl, hb, hcell⟩ := (HL.out.ext HE.out).get hlt
        by_cases hbig : 5000 < (L k).size
        · have q3 : (5000 : Int) < ((L k).size : Int) := by omega
          go_wp2
          go_ret
          exact ⟨false, rfl, fun q => (by cases q), HE.out⟩
        · have q3 : ¬ (5000 : Int) < ((L k).size : Int) := by omega
          have HKn : Hid (∀ i, i < k + 1 → (L i).size ≤ 5000) := fun i hi => by
            by_cases e : i = k
            · subst e; omega
            · exact HK.out i (by omega)
          go_wp2
          go_roundw
          case rel => exact ⟨k + 1, hlt, by push_cast; rfl, HKn, HE⟩
          case measure => exact lp_meas hlt
      · obtain rfl : k = n := by omega
        have hnl : ¬ (k : Int) < (k : Int) := by omega
        go_wp2
        go_ret
        exact ⟨true, rfl, fun _ => ⟨Hn6.out, HK.out⟩, HE.out⟩
end Go.Proofs.Ytenkfbfiombpkaa

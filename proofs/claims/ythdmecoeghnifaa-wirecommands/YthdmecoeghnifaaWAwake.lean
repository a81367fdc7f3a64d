/-
  sandglasslaw16.awake, called: true; nothing old is turned.
-/
import Derived.Test.YthdmecoeghnifaaWFace
namespace Go.Proofs.Ythdmecoeghnifaa
open Go.RowKit
theorem wtexts_lit2 (xs : List ByteArray) (hz : (txs xs).size ≤ 100000) (W : World) (t : TypeId) (c : Nat) (u : Array Value) (hu : u = (xs.map Value.string).toArray) :
    Calls Try.prog 13 #[.slice (some ⟨W.heap.size, 0, none⟩) xs.length c] (W.alloc (.cells u t)) fun e w' => e = .returned (.string (txs xs)) ∧ Ext (W.alloc (.cells u t)) w' := by
  have h := wtexts_any (.slice (some ⟨W.heap.size, 0, none⟩) xs.length c) xs.length (fun k => xs.getD k ⟨#[]⟩) (by unfold txN; rw [lsT_getD]; exact hz) _ (lies_lit W xs t c u hu)
  unfold txN at h
  rw [lsT_getD] at h
  exact h
theorem new4 (w : World) (x0 x1 x2 x3 : Value) (t : TypeId) : T4 (w.alloc (.cells #[x0, x1, x2, x3] t)) w.heap.size x0 x1 x2 x3 := ⟨by rw [World.cell?_alloc_at _ _ _ _ rfl]; rfl, by rw [World.cell?_alloc_at _ _ _ _ rfl]; rfl, by rw [World.cell?_alloc_at _ _ _ _ rfl]; rfl, by rw [World.cell?_alloc_at _ _ _ _ rfl]; rfl⟩
theorem new5 (w : World) (x0 x1 x2 x3 x4 : Value) (t : TypeId) {b : Nat} (hb : w.heap.size = b) : T5 (w.alloc (.cells #[x0, x1, x2, x3, x4] t)) b x0 x1 x2 x3 x4 := by
  subst hb
  exact ⟨⟨by rw [World.cell?_alloc_at _ _ _ _ rfl]; rfl, by rw [World.cell?_alloc_at _ _ _ _ rfl]; rfl, by rw [World.cell?_alloc_at _ _ _ _ rfl]; rfl, by rw [World.cell?_alloc_at _ _ _ _ rfl]; rfl⟩, by rw [World.cell?_alloc_at _ _ _ _ rfl]; rfl⟩
theorem liesT1 {w : World} {u : Value} {a : ByteArray} (h : LiesT w u [a].length (fun k => [a].getD k ⟨#[]⟩)) : ∃ g o cap, u = .slice (some ⟨g, o, none⟩) 1 cap ∧ g < w.heap.size ∧ w.cell? ⟨g, o, none⟩ = some (.string a) := by
  obtain ⟨a', cap, hv, hc⟩ := h
  obtain ⟨g, o, rfl, hb, hk⟩ := hc (by simp)
  exact ⟨g, o, cap, hv, hb, hk 0 (by simp)⟩
theorem aw_txt : txt ⟨#[97, 98]⟩ = ⟨#[0, 0, 0, 2, 97, 98]⟩ := by decide +kernel
theorem aw_read : rd ⟨#[0, 0, 0, 1, 97]⟩ 0 = some [⟨#[97]⟩] := by
  rw [show (⟨#[0, 0, 0, 1, 97]⟩ : ByteArray) = txs [⟨#[97]⟩] from by decide +kernel]
  exact rd_back _ (by intro x hx; simp at hx; subst hx; decide)
theorem aw_none : rd ⟨#[97]⟩ 0 = none := rd_short (by decide) (by decide)
theorem aw_nine : txs [⟨#[]⟩, ⟨#[97]⟩] = ⟨#[0, 0, 0, 0, 0, 0, 0, 1, 97]⟩ := by decide +kernel
theorem aw_cmd : cmdOk 2 3 ⟨#[97]⟩ ⟨#[98]⟩ = true := by decide
theorem aw_wrd : wrdOk 1 2 5 (-1) ⟨#[118]⟩ = true := by decide
set_option maxHeartbeats 4000000 in
theorem awake_any (w : World) : Calls Try.prog 10 #[] w fun e w' => e = .returned (.bool true) ∧ Ext w w' := by
  obtain ⟨C, hC⟩ : ∃ C, cmdB 2 3 ⟨#[97]⟩ ⟨#[98]⟩ = C := ⟨_, rfl⟩
  obtain ⟨D, hD⟩ : ∃ D, wrdB 1 2 5 (-1) ⟨#[118]⟩ = D := ⟨_, rfl⟩
  have hCs : C.size ≤ 100000 := hC ▸ cmdB_size aw_cmd
  have hDs : D.size ≤ 100000 := hD ▸ wrdB_size aw_wrd
  have H1 : Hid (∀ W, Calls Try.prog 18 #[.agg #[.int .i64 2, .int .i64 3, .string ⟨#[97]⟩, .string ⟨#[98]⟩]] W fun e w' => e = .returned (.tuple #[.string C, .int .i64 0]) ∧ Ext W w') := fun W => by have := wcmd_good _ _ _ _ aw_cmd W; rw [hC] at this; exact this
  have H2 : Hid (∀ W, Calls Try.prog 20 #[.string C] W fun e w' => e = .returned (.tuple #[.agg #[.int .i64 2, .int .i64 3, .string ⟨#[97]⟩, .string ⟨#[98]⟩], .int .i64 0]) ∧ Ext W w') := fun W => by
    have := wrdC_any C hCs W
    unfold rrdCV at this
    rw [← hC, cmd_back aw_cmd, hC] at this
    exact this
  have H3 : Hid (∀ W, Calls Try.prog 22 #[.agg #[.int .i64 1, .int .i64 2, .int .i64 5, .int .i64 (-1), .string ⟨#[118]⟩]] W fun e w' => e = .returned (.tuple #[.string D, .int .i64 0]) ∧ Ext W w') := fun W => by have := wwrd_good _ _ _ _ _ aw_wrd W; rw [hD] at this; exact this
  have H4 : Hid (∀ W, Calls Try.prog 24 #[.string D] W fun e w' => e = .returned (.tuple #[.agg #[.int .i64 1, .int .i64 2, .int .i64 5, .int .i64 (-1), .string ⟨#[118]⟩], .int .i64 0]) ∧ Ext W w') := fun W => by
    have := wrdW_any D hDs W
    unfold rrdWV at this
    rw [← hD, wrd_back aw_wrd, hD] at this
    exact this
  have H5 : Hid (∀ W, Calls Try.prog 11 #[.string ⟨#[97, 98]⟩] W fun e w' => e = .returned (.string ⟨#[0, 0, 0, 2, 97, 98]⟩) ∧ Ext W w') := fun W => by have := wtext_any ⟨#[97, 98]⟩ (by decide) W; rw [aw_txt] at this; exact this
  have H6 : Hid (∀ (W : World) (t : TypeId), Calls Try.prog 13 #[.slice (some ⟨W.heap.size, 0, none⟩) 2 2] (W.alloc (.cells #[.string ⟨#[]⟩, .string ⟨#[97]⟩] t)) fun e w' => e = .returned (.string ⟨#[0, 0, 0, 0, 0, 0, 0, 1, 97]⟩) ∧ Ext (W.alloc (.cells #[.string ⟨#[]⟩, .string ⟨#[97]⟩] t)) w') := fun W t => by
    have := wtexts_lit2 [⟨#[]⟩, ⟨#[97]⟩] (by rw [aw_nine]; decide) W t 2 _ rfl
    rw [aw_nine] at this
    exact this
  clear hC hD hCs hDs
  have R0 : T4 (w.alloc (.cells #[.int .i64 2, .int .i64 3, .string ⟨#[97]⟩, .string ⟨#[98]⟩] 36)) w.heap.size (.int .i64 2) (.int .i64 3) (.string ⟨#[97]⟩) (.string ⟨#[98]⟩) := ⟨by rw [World.cell?_alloc_at _ _ _ _ rfl]; rfl, by rw [World.cell?_alloc_at _ _ _ _ rfl]; rfl, by rw [World.cell?_alloc_at _ _ _ _ rfl]; rfl, by rw [World.cell?_alloc_at _ _ _ _ rfl]; rfl⟩
  have HR0 : Hid _ := R0
  clear R0
  go_enter Try.func10, Try.ntmps10
  go_wp2_with fail
  refine (H1.out _).mono ?_
  rintro e w1 ⟨rfl, HX⟩
  have HE1 : Hid (Ext w w1) := ((Ext.refl w).alloc _).trans HX
  have HT1 : Hid (T4 w1 w.heap.size (.int .i64 2) (.int .i64 3) (.string ⟨#[97]⟩) (.string ⟨#[98]⟩)) := (keepT4 HX HR0.out).2
  have HB1 : Hid (w.heap.size < w1.heap.size) := Nat.lt_of_lt_of_le (by simp) HX.size
  clear HX HR0
  generalize w.heap.size = b0 at *
  go_wp2_with fail
  refine (H2.out _).mono ?_
  rintro e w2 ⟨rfl, HX⟩
  have HE2 : Hid (Ext w w2) := HE1.out.trans HX
  have HT2 : Hid (T4 w2 b0 (.int .i64 2) (.int .i64 3) (.string ⟨#[97]⟩) (.string ⟨#[98]⟩)) := (keepT4 HX HT1.out).2
  have HB2 : Hid (b0 < w2.heap.size) := Nat.lt_of_lt_of_le HB1.out HX.size
  clear HX HT1 HE1 HB1
  have HT3 : Hid (T4 ((w2.alloc (.cells #[.int .i64 2, .int .i64 3, .string ⟨#[97]⟩, .string ⟨#[98]⟩] 36)).alloc (.cells #[.int .i64 1, .int .i64 2, .int .i64 5, .int .i64 (-1), .string ⟨#[118]⟩] 47)) w2.heap.size (.int .i64 2) (.int .i64 3) (.string ⟨#[97]⟩) (.string ⟨#[98]⟩)) := (keepT4 ((Ext.refl _).alloc _) (new4 w2 _ _ _ _ 36)).2
  have HU3 : Hid (T5 ((w2.alloc (.cells #[.int .i64 2, .int .i64 3, .string ⟨#[97]⟩, .string ⟨#[98]⟩] 36)).alloc (.cells #[.int .i64 1, .int .i64 2, .int .i64 5, .int .i64 (-1), .string ⟨#[118]⟩] 47)) (w2.heap.size + 1) (.int .i64 1) (.int .i64 2) (.int .i64 5) (.int .i64 (-1)) (.string ⟨#[118]⟩)) := (new5 (w2.alloc (.cells #[.int .i64 2, .int .i64 3, .string ⟨#[97]⟩, .string ⟨#[98]⟩] 36)) _ _ _ _ _ 47 (by simp))
  go_wp2_with fail
  refine (H3.out _).mono ?_
  rintro e w3 ⟨rfl, HX⟩
  have HE3 : Hid (Ext w w3) := ((HE2.out.alloc _).alloc _).trans HX
  have HTa : Hid (T4 w3 b0 (.int .i64 2) (.int .i64 3) (.string ⟨#[97]⟩) (.string ⟨#[98]⟩)) := (keepT4 ((((Ext.refl w2).alloc _).alloc _).trans HX) HT2.out).2
  have HTb : Hid (T4 w3 w2.heap.size (.int .i64 2) (.int .i64 3) (.string ⟨#[97]⟩) (.string ⟨#[98]⟩)) := (keepT4 HX HT3.out).2
  have HTc : Hid (T5 w3 (w2.heap.size + 1) (.int .i64 1) (.int .i64 2) (.int .i64 5) (.int .i64 (-1)) (.string ⟨#[118]⟩)) := (keepT5 HX HU3.out).2
  have HB3 : Hid (w2.heap.size + 1 < w3.heap.size) := Nat.lt_of_lt_of_le (by simp) HX.size
  have HB4 : Hid (b0 < w2.heap.size) := HB2.out
  clear HX HT3 HU3 HT2 HE2 HB2
  generalize w2.heap.size = b1 at *
  obtain ⟨b2, Hb2⟩ : ∃ b2, Hid (b1 + 1 = b2) := ⟨_, rfl⟩
  rw [Hb2.out] at HTc HB3 ⊢
  go_wp2_with fail
  refine (H4.out _).mono ?_
  rintro e w4 ⟨rfl, HX⟩
  have HE4 : Hid (Ext w w4) := HE3.out.trans HX
  have HTa4 : Hid (T4 w4 b0 (.int .i64 2) (.int .i64 3) (.string ⟨#[97]⟩) (.string ⟨#[98]⟩)) := (keepT4 HX HTa.out).2
  have HTb4 : Hid (T4 w4 b1 (.int .i64 2) (.int .i64 3) (.string ⟨#[97]⟩) (.string ⟨#[98]⟩)) := (keepT4 HX HTb.out).2
  have HTc4 : Hid (T5 w4 b2 (.int .i64 1) (.int .i64 2) (.int .i64 5) (.int .i64 (-1)) (.string ⟨#[118]⟩)) := (keepT5 HX HTc.out).2
  have HB5 : Hid (b2 < w4.heap.size) := Nat.lt_of_lt_of_le HB3.out HX.size
  have HTd4 : Hid (T5 (w4.alloc (.cells #[.int .i64 1, .int .i64 2, .int .i64 5, .int .i64 (-1), .string ⟨#[118]⟩] 47)) w4.heap.size (.int .i64 1) (.int .i64 2) (.int .i64 5) (.int .i64 (-1)) (.string ⟨#[118]⟩)) := new5 w4 _ _ _ _ _ 47 rfl
  clear HX HTa HTb HTc HE3 HB3
  go_wp2_with fail
  refine (wread_none (s := ⟨#[97]⟩) (by decide) aw_none _).mono ?_
  rintro e w5 ⟨u5, rfl, HL5, HX⟩
  have HX45 : Ext w4 w5 := ((Ext.refl w4).alloc _).trans HX
  have HE5 : Hid (Ext w w5) := HE4.out.trans HX45
  have HTa5 : Hid (T4 w5 b0 (.int .i64 2) (.int .i64 3) (.string ⟨#[97]⟩) (.string ⟨#[98]⟩)) := (keepT4 HX45 HTa4.out).2
  have HTb5 : Hid (T4 w5 b1 (.int .i64 2) (.int .i64 3) (.string ⟨#[97]⟩) (.string ⟨#[98]⟩)) := (keepT4 HX45 HTb4.out).2
  have HTc5 : Hid (T5 w5 b2 (.int .i64 1) (.int .i64 2) (.int .i64 5) (.int .i64 (-1)) (.string ⟨#[118]⟩)) := (keepT5 HX45 HTc4.out).2
  have HTd5 : Hid (T5 w5 w4.heap.size (.int .i64 1) (.int .i64 2) (.int .i64 5) (.int .i64 (-1)) (.string ⟨#[118]⟩)) := (keepT5 HX HTd4.out).2
  have HB6 : Hid (w4.heap.size < w5.heap.size) := Nat.lt_of_lt_of_le (by simp) HX.size
  have HB7 : Hid (b2 < w4.heap.size) := HB5.out
  clear HX HX45 HTa4 HTb4 HTc4 HTd4 HE4 HL5 HB5
  generalize w4.heap.size = b3 at *
  go_wp2_with fail
  refine (wread_some (s := ⟨#[0, 0, 0, 1, 97]⟩) (by decide) aw_read _).mono ?_
  rintro e w6 ⟨u6, rfl, HL6, HX⟩
  have HE6 : Hid (Ext w w6) := HE5.out.trans HX
  have HTa6 : Hid (T4 w6 b0 (.int .i64 2) (.int .i64 3) (.string ⟨#[97]⟩) (.string ⟨#[98]⟩)) := (keepT4 HX HTa5.out).2
  have HTb6 : Hid (T4 w6 b1 (.int .i64 2) (.int .i64 3) (.string ⟨#[97]⟩) (.string ⟨#[98]⟩)) := (keepT4 HX HTb5.out).2
  have HTc6 : Hid (T5 w6 b2 (.int .i64 1) (.int .i64 2) (.int .i64 5) (.int .i64 (-1)) (.string ⟨#[118]⟩)) := (keepT5 HX HTc5.out).2
  have HTd6 : Hid (T5 w6 b3 (.int .i64 1) (.int .i64 2) (.int .i64 5) (.int .i64 (-1)) (.string ⟨#[118]⟩)) := (keepT5 HX HTd5.out).2
  have HB8 : Hid (b3 < w6.heap.size) := Nat.lt_of_lt_of_le HB6.out HX.size
  obtain ⟨g, o, cap, rfl, hg, hc0⟩ := liesT1 HL6
  have Hc0 : Hid (w6.cell? ⟨g, o, none⟩ = some (.string ⟨#[97]⟩)) := hc0
  have Hg : Hid (g < w6.heap.size) := hg
  clear HX HTa5 HTb5 HTc5 HTd5 HE5 HL6 HB6 hc0 hg
  go_wp2_with fail
  refine (H5.out _).mono ?_
  rintro e w7 ⟨rfl, HX⟩
  have HE7 : Hid (Ext w w7) := HE6.out.trans HX
  obtain ⟨p0, p1, p2, p3⟩ := (keepT4 HX HTa6.out).2
  obtain ⟨q0, q1, q2, q3⟩ := (keepT4 HX HTb6.out).2
  obtain ⟨⟨r0, r1, r2, r3⟩, r4⟩ := (keepT5 HX HTc6.out).2
  obtain ⟨⟨s0, s1, s2, s3⟩, s4⟩ := (keepT5 HX HTd6.out).2
  have c0 := later HX Hc0.out
  clear HX HTa6 HTb6 HTc6 HTd6 HE6 Hc0
  go_wp2_with fail
  refine (H6.out _ _).mono ?_
  rintro e w8 ⟨rfl, HX⟩
  have HE8 : Hid (Ext w w8) := (HE7.out.alloc _).trans HX
  clear HX HE7
  go_wp2
  go_ret
  exact ⟨rfl, HE8.out⟩
/-- What few tells. -/
def FewR (b : Bool) (L : Nat → ByteArray) (n : Nat) : Prop := b = true → (txN L n).size < 20000
def FewP (L : Nat → ByteArray) (n : Nat) (w : World) (e : Ending) (w' : World) : Prop := ∃ b, e = .returned (.bool b) ∧ FewR b L n ∧ Ext w w'
theorem few_nums (k n N : Nat) (hk : k < n) (hn : n ≤ maxLen) (hN : N < 20000) : (k : Int) < (n : Int) ∧ (0 : Int) ≤ (k : Int) ∧ (N : Int) < 20000 ∧ IntKind.i64.wrap ((k : Int) + 1) = (k : Int) + 1 ∧ IntKind.i64.wrap ((N : Int) + 4) = (N : Int) + 4 := by
  unfold maxLen at hn
  refine ⟨?_, ?_, ?_, ?_, ?_⟩ <;> (try rw [IntKind.wrap_i64]) <;> omega
theorem few_nums2 (N z : Nat) (hN : N < 20000) (hz : z ≤ 20000) : ¬ (20000 : Int) < (z : Int) ∧ IntKind.i64.wrap ((N : Int) + 4 + (z : Int)) = (N : Int) + 4 + (z : Int) := by
  refine ⟨?_, ?_⟩ <;> (try rw [IntKind.wrap_i64]) <;> omega
set_option maxHeartbeats 1000000 in
theorem few_any (v : Value) (n : Nat) (L : Nat → ByteArray) (hn : n ≤ maxLen) (w : World) (hL : LiesT w v n L) :
    Calls Try.prog 9 #[v] w fun e w' => FewP L n w e w' := by
  obtain ⟨a, cap, rfl, hc⟩ := hL
  have HC : Hid (0 < n → ∃ b o, a = some ⟨b, o, none⟩ ∧ b < w.heap.size ∧ ∀ k, k < n * 1 → w.cell? ⟨b, o + k, none⟩ = some (.string (L k))) := hc
  have HE0 : Hid (Ext w w) := Ext.refl w
  have HN : Hid (n ≤ maxLen) := hn
  have H0 : Hid ((txN L 0).size = 0) := rfl
  clear hc hn
  go_enter Try.func9, Try.ntmps9
  go_wp2
  go_loopw [3, 4] (fun u3 u4 wr => ∃ k N : Nat, k ≤ n ∧ u4 = .int .i64 k ∧ u3 = .int .i64 N ∧ Hid ((txN L k).size = N) ∧ Hid (Ext w wr)) (fun _ u4 _ => n - (intOf u4).toNat)
  case atStart => exact ⟨0, 0, Nat.zero_le _, rfl, rfl, H0, HE0⟩
  case round =>
    obtain ⟨k, N, hk, rfl, rfl, HK, HE⟩ := hrel
    clear HE0 H0
    by_cases hlt : k < n
    · by_cases hN : N < 20000
      · obtain ⟨h1, h0, h2, w1, w2⟩ := few_nums k n N hlt HN.out hN
        obtain ⟨b, o, rfl, hb, hcell⟩ := HC.out (by omega)
        have hx := later HE.out (hcell k (by omega))
        obtain ⟨z, Hz⟩ : ∃ z, Hid ((L k).size = z) := ⟨_, rfl⟩
        have hz' : (L k).size = z := Hz.out
        clear hcell
        by_cases hbig : z ≤ 20000
        · obtain ⟨h3, w3⟩ := few_nums2 N z hN hbig
          go_wp2
          go_roundw
          case rel => exact ⟨k + 1, N + 4 + z, hlt, by push_cast; rfl, by push_cast; rfl, by show _ = _; rw [txN_size, HK.out, Hz.out]; omega, HE⟩
          case measure => (simp [intOf]; omega)
        · have h3 : (20000 : Int) < (z : Int) := by omega
          go_wp2
          go_ret
          exact ⟨false, rfl, fun q => (by cases q), HE.out⟩
      · have h1 : (k : Int) < (n : Int) := by omega
        have h2 : ¬ (N : Int) < 20000 := by omega
        go_wp2
        go_ret
        exact ⟨false, rfl, fun q => (by cases q), HE.out⟩
    · obtain rfl : k = n := by omega
      have hnl : ¬ (k : Int) < (k : Int) := by omega
      have HF : Hid (∀ b, b = decide ((N : Int) < 20000) → FewR b L k) := fun b hb q => by
        rw [hb] at q
        have := of_decide_eq_true q
        rw [HK.out]
        omega
      go_wp2
      go_ret
      exact ⟨_, rfl, HF.out _ rfl, HE.out⟩
end Go.Proofs.Ythdmecoeghnifaa

/-
  sandglassref17.Next, called; nothing old is turned.
-/
import Derived.Test.YtbkdjpialjbhnaaSa
namespace Go.Proofs.Ytbkdjpialjbhnaa
open Go.RowKit
theorem toList_ne {a b : ByteArray} (h : a ≠ b) : (a.toList == b.toList) = false := by
  rw [ByteArray.toList_eq, ByteArray.toList_eq]
  refine beq_false_of_ne fun q => h (ba_eq q)
/-- What Next hands out. -/
def nxtV (s : ByteArray) : Value := .tuple #[.string (nxt s).1, .int .i64 ((nxt s).2.1 : Int), .int .i64 (nxt s).2.2]
theorem nxtV_of {s t : ByteArray} {n : Nat} {e : Int} (h : nxt s = (t, n, e)) : nxtV s = .tuple #[.string t, .int .i64 (n : Int), .int .i64 e] := by unfold nxtV; rw [h]
set_option maxHeartbeats 1000000 in
theorem rnext_1 (s : ByteArray) (h : s.size < 4) (w : World) :
    Calls Try.prog 34 #[.string s] w fun e w' => e = .returned (nxtV s) ∧ Ext w w' := by
  have HR : Hid (nxtV s = .tuple #[.string ⟨#[]⟩, .int .i64 ((0 : Nat) : Int), .int .i64 2]) := nxtV_of (nxt_1 h)
  have h1 : (s.size : Int) < 4 := by omega
  go_enter Try.func34, Try.ntmps34
  go_wp2
  refine bodyPost_ret (v := .tuple #[.string ⟨#[]⟩, .int .i64 0, .int .i64 2]) (by simp [results, Try.results34, go_sem]) rfl ⟨by rw [HR.out]; rfl, Ext.refl _⟩
set_option maxHeartbeats 2000000 in
theorem rnext_2 (s : ByteArray) (hs : s.size ≤ 100000) (n : Nat) (hn : num4 s 0 = n) (h : ¬ s.size < 4) (h2 : 4096 < n) (w : World) :
    Calls Try.prog 34 #[.string s] w fun e w' => e = .returned (nxtV s) ∧ Ext w w' := by
  have HR : Hid (nxtV s = .tuple #[.string ⟨#[]⟩, .int .i64 ((0 : Nat) : Int), .int .i64 3]) := nxtV_of (nxt_2 h (by rw [hn]; exact h2))
  have c1 : (4096 : Int) < (n : Int) := by omega
  have e0 := sb_at s (i := 0) (by omega)
  have e1 := sb_at s (i := 1) (by omega)
  have e2 := sb_at s (i := 2) (by omega)
  have e3 := sb_at s (i := 3) (by omega)
  have g0 := sb_lt s 0; have g1 := sb_lt s 1; have g2 := sb_lt s 2; have g3 := sb_lt s 3
  have HO : Hid _ := or24 _ _ _ _ g0 g1 g2 g3
  rw [show sb s 0 * 16777216 + sb s 1 * 65536 + sb s 2 * 256 + sb s 3 = n from hn] at HO
  have h4 : ¬ (s.size : Int) < 4 := by omega
  have i0 : (0 : Int) < (s.size : Int) := by omega
  have i1 : (1 : Int) < (s.size : Int) := by omega
  have i2 : (2 : Int) < (s.size : Int) := by omega
  have i3 : (3 : Int) < (s.size : Int) := by omega
  generalize sb s 0 = b0 at *
  generalize sb s 1 = b1 at *
  generalize sb s 2 = b2 at *
  generalize sb s 3 = b3 at *
  clear hn
  go_enter Try.func34, Try.ntmps34
  go_wp2_with fail
  go_quiet (fail)
  rw [HO.out]
  clear e0 e1 e2 e3 g0 g1 g2 g3 HO i0 i1 i2 i3 h4
  go_wp2
  refine bodyPost_ret (v := .tuple #[.string ⟨#[]⟩, .int .i64 0, .int .i64 3]) (by simp [results, Try.results34, go_sem]) rfl ⟨by rw [HR.out]; rfl, (Ext.refl _).drewN _⟩
set_option maxHeartbeats 2000000 in
theorem rnext_3 (s : ByteArray) (hs : s.size ≤ 100000) (n : Nat) (hn : num4 s 0 = n) (h : ¬ s.size < 4) (h2 : ¬ 4096 < n) (h3 : s.size < 8 + n) (w : World) :
    Calls Try.prog 34 #[.string s] w fun e w' => e = .returned (nxtV s) ∧ Ext w w' := by
  have HR : Hid (nxtV s = .tuple #[.string ⟨#[]⟩, .int .i64 ((0 : Nat) : Int), .int .i64 2]) := nxtV_of (nxt_3 h (by rw [hn]; exact h2) (by rw [hn]; exact h3))
  have c1 : ¬ (4096 : Int) < (n : Int) := by omega
  have c2 : (s.size : Int) < 8 + (n : Int) := by omega
  have wn : IntKind.i64.wrap (8 + (n : Int)) = 8 + (n : Int) := by rw [IntKind.wrap_i64]; omega
  have e0 := sb_at s (i := 0) (by omega)
  have e1 := sb_at s (i := 1) (by omega)
  have e2 := sb_at s (i := 2) (by omega)
  have e3 := sb_at s (i := 3) (by omega)
  have g0 := sb_lt s 0; have g1 := sb_lt s 1; have g2 := sb_lt s 2; have g3 := sb_lt s 3
  have HO : Hid _ := or24 _ _ _ _ g0 g1 g2 g3
  rw [show sb s 0 * 16777216 + sb s 1 * 65536 + sb s 2 * 256 + sb s 3 = n from hn] at HO
  have h4 : ¬ (s.size : Int) < 4 := by omega
  have i0 : (0 : Int) < (s.size : Int) := by omega
  have i1 : (1 : Int) < (s.size : Int) := by omega
  have i2 : (2 : Int) < (s.size : Int) := by omega
  have i3 : (3 : Int) < (s.size : Int) := by omega
  generalize sb s 0 = b0 at *
  generalize sb s 1 = b1 at *
  generalize sb s 2 = b2 at *
  generalize sb s 3 = b3 at *
  clear hn
  go_enter Try.func34, Try.ntmps34
  go_wp2_with fail
  go_quiet (fail)
  rw [HO.out]
  clear e0 e1 e2 e3 g0 g1 g2 g3 HO i0 i1 i2 i3 h4
  go_wp2
  refine bodyPost_ret (v := .tuple #[.string ⟨#[]⟩, .int .i64 0, .int .i64 2]) (by simp [results, Try.results34, go_sem]) rfl ⟨by rw [HR.out]; rfl, (Ext.refl _).drewN _⟩
set_option maxHeartbeats 2000000 in
theorem rnext_4 (s : ByteArray) (hs : s.size ≤ 100000) (n : Nat) (hn : num4 s 0 = n) (h : ¬ s.size < 4) (h2 : ¬ 4096 < n) (h3 : ¬ s.size < 8 + n) (h5 : ¬ frm (s.extract 8 (8 + n)) = s.extract 0 (8 + n)) (w : World) :
    Calls Try.prog 34 #[.string s] w fun e w' => e = .returned (nxtV s) ∧ Ext w w' := by
  have HR : Hid (nxtV s = .tuple #[.string ⟨#[]⟩, .int .i64 ((0 : Nat) : Int), .int .i64 4]) := nxtV_of (nxt_4 h (by rw [hn]; exact h2) (by rw [hn]; exact h3) (by rw [hn]; exact h5))
  have c1 : ¬ (4096 : Int) < (n : Int) := by omega
  have c2 : ¬ (s.size : Int) < 8 + (n : Int) := by omega
  have wn : IntKind.i64.wrap (8 + (n : Int)) = 8 + (n : Int) := by rw [IntKind.wrap_i64]; omega
  have t1 : (8 + (n : Int)).toNat = 8 + n := by omega
  have t2 : (0 : Int) ≤ 8 + (n : Int) := by omega
  have t3 : (8 : Int) ≤ 8 + (n : Int) := by omega
  have t4 : 8 + (n : Int) ≤ (s.size : Int) := by omega
  have hz : (s.extract 8 (8 + n)).size ≤ 4096 := by rw [ByteArray.size_extract]; omega
  have HC : Hid (∀ W, Calls Try.prog 27 #[.string (s.extract 8 (8 + n))] W fun e w' => e = .returned (.tuple #[.string (frm (s.extract 8 (8 + n))), .int .i64 0]) ∧ Ext W w') := fun W => rframe_good _ hz W
  have hd : ((frm (s.extract 8 (8 + n))).toList == (s.extract 0 (8 + n)).toList) = false := toList_ne h5
  generalize frm (s.extract 8 (8 + n)) = fr at *
  clear h5 hz
  have e0 := sb_at s (i := 0) (by omega)
  have e1 := sb_at s (i := 1) (by omega)
  have e2 := sb_at s (i := 2) (by omega)
  have e3 := sb_at s (i := 3) (by omega)
  have g0 := sb_lt s 0; have g1 := sb_lt s 1; have g2 := sb_lt s 2; have g3 := sb_lt s 3
  have HO : Hid _ := or24 _ _ _ _ g0 g1 g2 g3
  rw [show sb s 0 * 16777216 + sb s 1 * 65536 + sb s 2 * 256 + sb s 3 = n from hn] at HO
  have h4 : ¬ (s.size : Int) < 4 := by omega
  have i0 : (0 : Int) < (s.size : Int) := by omega
  have i1 : (1 : Int) < (s.size : Int) := by omega
  have i2 : (2 : Int) < (s.size : Int) := by omega
  have i3 : (3 : Int) < (s.size : Int) := by omega
  generalize sb s 0 = b0 at *
  generalize sb s 1 = b1 at *
  generalize sb s 2 = b2 at *
  generalize sb s 3 = b3 at *
  clear hn
  go_enter Try.func34, Try.ntmps34
  go_wp2_with fail
  go_quiet (fail)
  rw [HO.out]
  clear e0 e1 e2 e3 g0 g1 g2 g3 HO i0 i1 i2 i3 h4
  go_wp2_with fail
  refine (HC.out _).mono ?_
  rintro e w1 ⟨rfl, HX⟩
  have HE1 : Hid (Ext w w1) := ((Ext.refl w).drewN _).trans HX
  clear HX
  go_wp2
  refine bodyPost_ret (v := .tuple #[.string ⟨#[]⟩, .int .i64 0, .int .i64 4]) (by simp [results, Try.results34, go_sem]) rfl ⟨by rw [HR.out]; rfl, HE1.out⟩
set_option maxHeartbeats 2000000 in
theorem rnext_5 (s : ByteArray) (hs : s.size ≤ 100000) (n : Nat) (hn : num4 s 0 = n) (h : ¬ s.size < 4) (h2 : ¬ 4096 < n) (h3 : ¬ s.size < 8 + n) (h5 : frm (s.extract 8 (8 + n)) = s.extract 0 (8 + n)) (w : World) :
    Calls Try.prog 34 #[.string s] w fun e w' => e = .returned (nxtV s) ∧ Ext w w' := by
  have HR : Hid (nxtV s = .tuple #[.string (s.extract 8 (8 + n)), .int .i64 ((8 + n : Nat) : Int), .int .i64 0]) := by
    have := nxt_5 h (by rw [hn]; exact h2) (by rw [hn]; exact h3) (by rw [hn]; exact h5)
    rw [hn] at this
    exact nxtV_of this
  have c1 : ¬ (4096 : Int) < (n : Int) := by omega
  have c2 : ¬ (s.size : Int) < 8 + (n : Int) := by omega
  have wn : IntKind.i64.wrap (8 + (n : Int)) = 8 + (n : Int) := by rw [IntKind.wrap_i64]; omega
  have t1 : (8 + (n : Int)).toNat = 8 + n := by omega
  have t2 : (0 : Int) ≤ 8 + (n : Int) := by omega
  have t3 : (8 : Int) ≤ 8 + (n : Int) := by omega
  have t4 : 8 + (n : Int) ≤ (s.size : Int) := by omega
  have hz : (s.extract 8 (8 + n)).size ≤ 4096 := by rw [ByteArray.size_extract]; omega
  have HC : Hid (∀ W, Calls Try.prog 27 #[.string (s.extract 8 (8 + n))] W fun e w' => e = .returned (.tuple #[.string (frm (s.extract 8 (8 + n))), .int .i64 0]) ∧ Ext W w') := fun W => rframe_good _ hz W
  rw [h5] at HC
  clear h5 hz
  have e0 := sb_at s (i := 0) (by omega)
  have e1 := sb_at s (i := 1) (by omega)
  have e2 := sb_at s (i := 2) (by omega)
  have e3 := sb_at s (i := 3) (by omega)
  have g0 := sb_lt s 0; have g1 := sb_lt s 1; have g2 := sb_lt s 2; have g3 := sb_lt s 3
  have HO : Hid _ := or24 _ _ _ _ g0 g1 g2 g3
  rw [show sb s 0 * 16777216 + sb s 1 * 65536 + sb s 2 * 256 + sb s 3 = n from hn] at HO
  have h4 : ¬ (s.size : Int) < 4 := by omega
  have i0 : (0 : Int) < (s.size : Int) := by omega
  have i1 : (1 : Int) < (s.size : Int) := by omega
  have i2 : (2 : Int) < (s.size : Int) := by omega
  have i3 : (3 : Int) < (s.size : Int) := by omega
  generalize sb s 0 = b0 at *
  generalize sb s 1 = b1 at *
  generalize sb s 2 = b2 at *
  generalize sb s 3 = b3 at *
  clear hn
  go_enter Try.func34, Try.ntmps34
  go_wp2_with fail
  go_quiet (fail)
  rw [HO.out]
  clear e0 e1 e2 e3 g0 g1 g2 g3 HO i0 i1 i2 i3 h4
  go_wp2_with fail
  refine (HC.out _).mono ?_
  rintro e w1 ⟨rfl, HX⟩
  have HE1 : Hid (Ext w w1) := ((Ext.refl w).drewN _).trans HX
  clear HX
  go_wp2
  refine bodyPost_ret (v := .tuple #[.string (s.extract 8 (8 + n)), .int .i64 (8 + (n : Int)), .int .i64 0]) (by simp [results, Try.results34, go_sem]) rfl ⟨by rw [HR.out]; push_cast; rfl, HE1.out⟩
theorem rnext_any (s : ByteArray) (hs : s.size ≤ 100000) (w : World) :
    Calls Try.prog 34 #[.string s] w fun e w' => e = .returned (nxtV s) ∧ Ext w w' := by
  by_cases h : s.size < 4
  · exact rnext_1 s h w
  · by_cases h2 : 4096 < num4 s 0
    · exact rnext_2 s hs _ rfl h h2 w
    · by_cases h3 : s.size < 8 + num4 s 0
      · exact rnext_3 s hs _ rfl h h2 h3 w
      · by_cases h5 : frm (s.extract 8 (8 + num4 s 0)) = s.extract 0 (8 + num4 s 0)
        · exact rnext_5 s hs _ rfl h h2 h3 h5 w
        · exact rnext_4 s hs _ rfl h h2 h3 h5 w
end Go.Proofs.Ytbkdjpialjbhnaa

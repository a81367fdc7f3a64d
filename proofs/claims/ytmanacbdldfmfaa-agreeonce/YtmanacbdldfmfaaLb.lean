/-
 AgreeNone, AgreeLeaders, Few.
-/
import Derived.Test.YtmanacbdldfmfaaLa
namespace Go.Proofs.Ytmanacbdldfmfaa
open Go.RowKit
set_option maxRecDepth 10000
set_option maxHeartbeats 4000000 in
theorem agreeNone_any (m : Vt) (w : World) : Calls Try.prog 7 #[wv m] w fun e w' => e = .returned (.bool true) ∧ Ext w w' := by
 have HE0 : Hid (Ext w (w.alloc (.cells #[.int .i64 m.kd, .int .i64 m.fr, .int .i64 m.rd, .int .i64 m.va, .string m.vl] 39))) := (Ext.refl w).alloc _
 have HC : Hid (∀ wx, Ext (w.alloc (.cells #[.int .i64 m.kd, .int .i64 m.fr, .int .i64 m.rd, .int .i64 m.va, .string m.vl] 39)) wx → Wd w.heap.size m.kd m.fr m.rd m.va m.vl wx) := fun wx hx => Wd.ext (Wd.new w _ _ _ _ _) hx
 have HT : Hid (∀ wx, Calls Try.prog 14 #[.pointer none, .agg #[.int .i64 m.kd, .int .i64 m.fr, .int .i64 m.rd, .int .i64 m.va, .string m.vl]] wx fun e w' => e = .returned (.slice none 0 0) ∧ Ext wx w') := fun wx => take_nil m wx
 go_enter Try.func7, Try.ntmps7
 go_wp2_with fail
 obtain ⟨W, hW⟩ : ∃ W, w.alloc (.cells #[.int .i64 m.kd, .int .i64 m.fr, .int .i64 m.rd, .int .i64 m.va, .string m.vl] 39) = W := ⟨_, rfl⟩
 rw [hW] at HE0 HC ⊢
 clear hW
 refine (adecided_nil _).mono ?_
 rintro e w1 ⟨rfl, HX⟩
 have H1 : Hid (Ext W w1) := HX
 clear HX
 go_wp2_with fail
 refine (aat_nil _).mono ?_
 rintro e w2 ⟨rfl, HX⟩
 have H2 : Hid (Ext W w2) := H1.out.trans HX
 clear HX H1
 go_wp2_with fail
 refine (alocked_nil _).mono ?_
 rintro e w3 ⟨rfl, HX⟩
 have H3 : Hid (Ext W w3) := H2.out.trans HX
 clear HX H2
 go_wp2_with fail
 refine (start_nil _).mono ?_
 rintro e w4 ⟨rfl, HX⟩
 have H4 : Hid (Ext W w4) := H3.out.trans HX
 obtain ⟨x0, x1, x2, x3, x4, xl⟩ := HC.out _ H4.out
 clear HX H3
 go_wp2_with fail
 refine (HT.out _).mono ?_
 rintro e w5 ⟨rfl, HX⟩
 have H5 : Hid (Ext W w5) := H4.out.trans HX
 clear HX H4 x0 x1 x2 x3 x4 xl
 go_wp2_with fail
 refine (awake_any _).mono ?_
 rintro e w6 ⟨rfl, HX⟩
 have H6 : Hid (Ext w w6) := HE0.out.trans (H5.out.trans HX)
 clear HX H5
 go_wp2_with fail
 go_ret
 exact ⟨rfl, H6.out⟩
theorem lead_next {n h r : Int} (hx : ¬ leadA n h r = 0) (hr : ¬ r = 64) : leadA n h (r + 1) = Int.tmod (leadA n h r) n + 1 ∧ 1 ≤ n ∧ n ≤ 7 ∧ 0 ≤ r ∧ r < 64 ∧ 0 ≤ h ∧ h ≤ 64 ∧ 1 ≤ leadA n h r ∧ leadA n h r ≤ 7 := by
 by_cases hc : 1 ≤ n ∧ n ≤ 7 ∧ 0 ≤ h ∧ h ≤ 64 ∧ 0 ≤ r ∧ r ≤ 64
 ·obtain ⟨c1, c2, c3, c4, c5, c6⟩ := hc
  have l1 := lead_in c1 c2 c3 c4 c5 c6
  refine ⟨?_, c1, c2, c5, by omega, c3, c4, l1⟩
  unfold leadA
  have t := Int.emod_nonneg (h + r) (show n ≠ 0 by omega)
  have e1 : Int.tmod (h + (r + 1)) n = (h + (r + 1)) % n := Int.tmod_eq_emod_of_nonneg (by omega)
  have e2 : Int.tmod (h + r) n = (h + r) % n := Int.tmod_eq_emod_of_nonneg (by omega)
  have e3 : Int.tmod ((h + r) % n + 1) n = ((h + r) % n + 1) % n := Int.tmod_eq_emod_of_nonneg (by omega)
  rw [if_pos ⟨c1, c2, c3, c4, by omega, by omega⟩, if_pos ⟨c1, c2, c3, c4, c5, c6⟩, e1, e2, e3]
  clear e1 e2 e3 l1 t
  have : n = 1 ∨ n = 2 ∨ n = 3 ∨ n = 4 ∨ n = 5 ∨ n = 6 ∨ n = 7 := by omega
  rcases this with rfl | rfl | rfl | rfl | rfl | rfl | rfl <;> omega
 ·exact absurd (if_neg hc) hx
set_option maxHeartbeats 4000000 in
theorem agreeLeaders_any (n h r : Int) (w : World) : Calls Try.prog 3 #[.int .i64 n, .int .i64 h, .int .i64 r] w fun e w' => e = .returned (.bool true) ∧ Ext w w' := by
 have HE : Hid (Ext w w) := Ext.refl w
 have HL : Hid (∀ wx, Calls Try.prog 8 #[.int .i64 n, .int .i64 h, .int .i64 r] wx fun e w' => e = .returned (.int .i64 (leadA n h r)) ∧ w' = wx) := fun wx => lead_any n h r wx
 have HR : Hid (∀ wx, Calls Try.prog 9 #[.int .i64 n, .int .i64 h, .int .i64 r] wx fun e w' => e = .returned (.int .i64 (leadA n h r)) ∧ w' = wx) := fun wx => rlead_any n h r wx
 have HN := fun q1 q2 => lead_next (n := n) (h := h) (r := r) q1 q2
 have HN : Hid (¬ leadA n h r = 0 → ¬ r = 64 → leadA n h (r + 1) = Int.tmod (leadA n h r) n + 1 ∧ 1 ≤ n ∧ n ≤ 7 ∧ 0 ≤ r ∧ r < 64 ∧ 0 ≤ h ∧ h ≤ 64 ∧ 1 ≤ leadA n h r ∧ leadA n h r ≤ 7) := HN
 have HL1 : Hid (∀ wx, Calls Try.prog 8 #[.int .i64 n, .int .i64 h, .int .i64 (r + 1)] wx fun e w' => e = .returned (.int .i64 (leadA n h (r + 1))) ∧ w' = wx) := fun wx => lead_any n h (r + 1) wx
 have hne : (leadA n h r != leadA n h r) = false := by simp
 generalize leadA n h r = x at *
 go_enter Try.func3, Try.ntmps3
 go_wp2_with fail
 refine (HL.out _).mono ?_
 rintro e w1 ⟨rfl, ew1⟩
 replace ew1 := ew1.symm
 subst ew1
 go_wp2_with fail
 refine (HR.out _).mono ?_
 rintro e w2 ⟨rfl, ew2⟩
 replace ew2 := ew2.symm
 subst ew2
 clear HL HR
 by_cases hx : x = 0
 ·have ex : (x == 0) = true := by simpa using hx
  clear HN HL1 hx
  go_wp2_with fail
  refine (awake_any _).mono ?_
  rintro e w3 ⟨rfl, HX⟩
  have HX3 : Hid (Ext w w3) := HX
  clear HX
  go_wp2_with fail
  go_ret
  exact ⟨rfl, HX3.out⟩
 have ex : (x == 0) = false := by simpa using hx
 by_cases hr : r = 64
 ·have er : (r == 64) = true := by simpa using hr
  clear HN HL1 hx hr
  go_wp2_with fail
  refine (awake_any _).mono ?_
  rintro e w3 ⟨rfl, HX⟩
  have HX3 : Hid (Ext w w3) := HX
  clear HX
  go_wp2_with fail
  go_ret
  exact ⟨rfl, HX3.out⟩
 ·have er : (r == 64) = false := by simpa using hr
  obtain ⟨q1, q2, q3, q4, q5, q6, q7, q8, q9⟩ := HN.out hx hr
  have hw1 : IntKind.i64.wrap (r + 1) = r + 1 := by rw [IntKind.wrap_i64]; omega
  have hn0 : ¬ n = 0 := by omega
  have t0 : 0 ≤ Int.tmod x n := Int.tmod_nonneg n (by omega)
  have t1 : Int.tmod x n < n := Int.tmod_lt_of_pos x (by omega)
  have ht : IntKind.i64.wrap (Int.tmod x n) = Int.tmod x n := by rw [IntKind.wrap_i64]; omega
  have ht2 : IntKind.i64.wrap (Int.tmod x n + 1) = Int.tmod x n + 1 := by rw [IntKind.wrap_i64]; omega
  have HL2 : Hid (∀ wx, Calls Try.prog 8 #[.int .i64 n, .int .i64 h, .int .i64 (r + 1)] wx fun e w' => e = .returned (.int .i64 (Int.tmod x n + 1)) ∧ w' = wx) := fun wx => by rw [← q1]; exact HL1.out wx
  have he : (Int.tmod x n + 1 == Int.tmod x n + 1) = true := by simp
  clear HN HL1 hx hr q1 q2 q3 q4 q5 q6 q7 q8 q9 t0 t1
  go_wp2_with fail
  refine wp_region_noPanic ?_
  refine wp_region_held (S := Ext w) (by kernel_rfl) ?_
  rw [show ({ w with drawn := w.drawn + 1 } : World) = w.drew from rfl]
  have HS : Ext w w.drew := (Ext.refl w).drew
  refine takeH (i := 0) (v := ?vg0) ?hyg0 HS ?restg0
  case hyg0 => (intro wx hSx; go_simp; try with_reducible rfl)
  try simp only [sx]
  refine takeH (i := 1) (v := ?vg1) ?hyg1 HS ?restg1
  case hyg1 => (intro wx hSx; go_simp; try with_reducible rfl)
  try simp only [sx]
  refine takeH (i := 2) (v := ?vg2) ?hyg2 HS ?restg2
  case hyg2 => (intro wx hSx; go_simp; try with_reducible rfl)
  try simp only [sx]
  refine takeH (i := 3) (v := ?vg3) ?hyg3 HS ?restg3
  case hyg3 => (intro wx hSx; go_simp; try with_reducible rfl)
  try simp only [sx]
  refine takeH (i := 5) (v := ?vg5) ?hyg5 HS ?restg5
  case hyg5 => (intro wx hSx; go_simp; try with_reducible rfl)
  try simp only [sx]
  refine takeH (i := 6) (v := ?vg6) ?hyg6 HS ?restg6
  case hyg6 => (intro wx hSx; go_simp; try with_reducible rfl)
  try simp only [sx]
  refine takeH (i := 7) (v := ?vg7) ?hyg7 HS ?restg7
  case hyg7 => (intro wx hSx; go_simp; try with_reducible rfl)
  try simp only [sx]
  refine takeH (i := 8) (v := ?vg8) ?hyg8 HS ?restg8
  case hyg8 => (intro wx hSx; go_simp; try with_reducible rfl)
  try simp only [sx]
  refine held_one (i := 4) (by kernel_rfl) rfl rfl (fun K hK => ?_)
  go_simp
  refine (HL2.out _).mono ?_
  rintro e w3 ⟨rfl, ew⟩
  have HS2 : Ext w w3 := by rw [ew]; exact HS
  clear ew
  try go_simp
  refine hK.out _ _ ⟨HS2, ?_⟩
  clear hK K
  try simp only [sx]
  refine takeH (i := 9) (v := ?vg9) ?hyg9 HS2 ?restg9
  case hyg9 => (intro wx hSx; go_simp; try with_reducible rfl)
  try simp only [sx]
  refine takeH (i := 10) (v := ?vg10) ?hyg10 HS2 ?restg10
  case hyg10 => (intro wx hSx; go_simp; try with_reducible rfl)
  try simp only [sx]
  refine held_one (i := 11) (by kernel_rfl) rfl rfl (fun K hK => ?_)
  go_simp
  refine (awake_any _).mono ?_
  rintro e w4 ⟨rfl, HX4⟩
  have HS3 : Ext w w4 := HS2.trans HX4
  try go_simp
  refine hK.out _ _ ⟨HS3, ?_⟩
  clear hK K
  try simp only [sx]
  refine takeH (i := 12) (v := ?vg12) ?hyg12 HS3 ?restg12
  case hyg12 => (intro wx hSx; go_simp; try with_reducible rfl)
  try simp only [sx]
  refine takeH (i := 13) (v := ?vg13) ?hyg13 HS3 ?restg13
  case hyg13 => (intro wx hSx; go_simp; try with_reducible rfl)
  try simp only [sx]
  refine wpAnyH_done (by kernel_rfl) ?_ _
  refine NoPanic.normal ?_
  go_wp2_with fail
  go_ret
  exact ⟨rfl, HS3⟩
def FewP (L : List Vt) (w : World) (e : Ending) (w' : World) : Prop := ∃ x : Int, e = .returned (.int .i64 x) ∧ (x = 0 ∨ (x = 1 ∧ L.length ≤ 60)) ∧ Ext w w'
set_option maxHeartbeats 2000000 in
theorem few_any (v : Value) (L : List Vt) (w : World) (hL : WsIs w v L) : Calls Try.prog 11 #[v] w fun e w' => FewP L w e w' := by
 have HL0 : Hid (WsIs w v L) := hL
 obtain ⟨a, cap, rfl, _⟩ := hL
 have HE0 : Hid (Ext w w) := Ext.refl w
 obtain ⟨n, HN⟩ : ∃ n, Hid (L.length = n) := ⟨_, rfl⟩
 have HL := HL0
 rw [HN.out] at HL ⊢
 clear HL0
 by_cases hn : 60 < n
 ·have h1 : (60 : Int) < (n : Int) := by omega
  go_enter Try.func11, Try.ntmps11
  go_wp2
  go_ret
  exact ⟨0, rfl, .inl rfl, HE0.out⟩
 ·have h1 : ¬ (60 : Int) < (n : Int) := by omega
  have Hn : Hid (n ≤ 60) := by show _ ≤ _; omega
  clear hn
  go_enter Try.func11, Try.ntmps11
  go_wp2
  go_loopw [3] (fun u3 wr => ∃ j : Nat, j ≤ n ∧ u3 = .int .i64 j ∧ Hid (Ext w wr)) (fun u3 _ => n - (intOf u3).toNat)
  case atStart => exact ⟨0, Nat.zero_le _, rfl, HE0⟩
  case round =>
   obtain ⟨j, hk, rfl, HE⟩ := hrel
   clear HE0
   by_cases hlt : j < n
   ·obtain ⟨q1, q0, qw⟩ := lp_nums j n hlt (by have := Hn.out; omega)
    obtain ⟨m, hm⟩ : ∃ m, L[j]? = some m := ⟨L[j]'(by rw [HN.out]; exact hlt), List.getElem?_eq_getElem _⟩
    have HL2 : WsIs wr (.slice a L.length cap) L := by rw [HN.out]; exact HL.out.ext HE.out
    obtain ⟨g, o, rfl, hbl, hd0, hd1, hd2, hd3, hd4⟩ := HL2.get hm
    clear HL2 hm hd0 hd1 hd2 hd3
    by_cases hbig : (5000 : Int) < (m.vl.size : Int)
    ·go_wp2
     go_ret
     exact ⟨0, rfl, .inl rfl, HE.out⟩
    ·go_wp2
     go_roundw
     case rel => exact ⟨j + 1, hlt, by push_cast; rfl, HE⟩
     case measure => exact lp_meas hlt
   ·obtain rfl : j = n := by omega
    have hnl : ¬ (j : Int) < (j : Int) := by omega
    go_wp2
    go_ret
    exact ⟨1, rfl, .inr ⟨rfl, by rw [HN.out]; exact Hn.out⟩, HE.out⟩
end Go.Proofs.Ytmanacbdldfmfaa

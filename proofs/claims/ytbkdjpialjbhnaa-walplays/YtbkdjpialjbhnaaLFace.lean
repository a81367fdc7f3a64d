/-
  (*wal.Wal).Crash, called: what is left is what the document's definition says; with it the face of package wal is whole.
-/
import Derived.Test.YtbkdjpialjbhnaaLAt
namespace Go.Proofs.Ytbkdjpialjbhnaa
open Go.RowKit
/-- A log's pointer is set to another disk. -/
theorem move_blocks {w w' : World} {b : Nat} {d2 : Addr} {G G2 : Nat → Prop} (hc : Chg G w w') (hf : From G2 w.heap.size) :
    Sub (fun k => k = b ∨ G2 k) (fun k => k = b ∨ G k) w ∧ Chg (fun k => k = b ∨ G k) w (w'.setCell ⟨b, 0, none⟩ (.pointer (some d2))) := by
  refine ⟨?_, ?_⟩
  · rintro k (rfl | hk)
    · exact .inl (.inl rfl)
    · exact .inr (hf k hk)
  · exact Chg.st (.inl (.inl rfl)) (hc.wide fun k q => .inr q)
/-- What Crash leaves. -/
def CraP (w : World) (v : Value) (F : Nat → Prop) (l : List ByteArray) (n K : Nat) (w' : World) : Prop := WPo w v F (lg (wCr l n K)) (wy (wCr l n K) (wCr l n K).length) w'
theorem dDo_crash (T : ByteArray) (y K : Nat) : dDo T y 3 ⟨#[]⟩ K = (dcrash T K y, (dcrash T K y).size, 0) := by unfold dDo; rw [if_neg (by decide), if_neg (by decide), if_pos rfl]
theorem dDo_write0 {X : ByteArray} (h : X.size ≤ 65536) : dDo ⟨#[]⟩ 0 1 X 0 = (X, 0, 0) := by
  have e0 : (⟨#[]⟩ : ByteArray).size = 0 := rfl
  unfold dDo
  rw [if_pos rfl, if_neg (by rw [e0]; omega), nil_app]
set_option maxHeartbeats 2000000 in
theorem wcrash_any {v : Value} {l : List ByteArray} {n : Nat} {F : Nat → Prop} (K : Nat) (hk : wOk l n) (hK : K < 18446744073709551616) (w : World) (h : WAt w v l n F) :
    Calls Try.prog 13 #[v, .int .u64 (K : Int)] w fun e w' => e = .returned (.tuple #[]) ∧ CraP w v F l n K w' := by
  obtain ⟨b, d, G, rfl, hb, h0, h1, h2, h3, rfl⟩ := h
  obtain ⟨R, hR⟩ : ∃ R, wR l n K = R := ⟨_, rfl⟩
  obtain ⟨X, hX⟩ : ∃ X, lg (wCr l n K) = X := ⟨_, rfl⟩
  obtain ⟨m, hm⟩ : ∃ m, (pf R 0).2 = m := ⟨_, rfl⟩
  have hwt := wCr_text l n K
  have hRz := wR_size hk K
  rw [hR, hX, hm] at hwt
  rw [hR] at hRz
  obtain ⟨x1, x2, x3⟩ := hwt
  have C1 : Hid (Calls Try.prog 22 #[.pointer (some d), .agg #[.int .i64 3, .string ⟨#[]⟩, .int .u64 (K : Int)]] w fun e w' => ∃ F', e = .returned (.int .i64 0) ∧ DAt w' (.pointer (some d)) R R.size F' ∧ Sub F' G w ∧ Chg G w w') := by
    have := ddo_any 3 ⟨#[]⟩ K hk.disk hK w h2
    rw [dDo_crash, show dcrash (lg l) K (wy l n) = R from hR] at this
    exact this
  have C2 : Hid (∀ W, Calls Try.prog 25 #[.string R] W fun e w' => ∃ u, e = .returned (.tuple #[u, .int .i64 (m : Int)]) ∧ Ext W w') := fun W => by
    refine (cprefix_any R (by omega) W).mono ?_
    rintro e w' ⟨u, rfl, _, q3⟩
    exact ⟨u, by rw [hm], q3⟩
  have C3 : Hid (∀ W d2 G2, DAt W (.pointer (some d2)) ⟨#[]⟩ 0 G2 → Calls Try.prog 22 #[.pointer (some d2), .agg #[.int .i64 1, .string (R.extract 0 m), .int .u64 0]] W fun e w' => ∃ F', e = .returned (.int .i64 0) ∧ DAt w' (.pointer (some d2)) X 0 F' ∧ Sub F' G2 W ∧ Chg G2 W w') := fun W d2 G2 q => by
    have := ddo_any 1 X 0 (show dOk ⟨#[]⟩ 0 from ⟨Nat.le_refl _, by show 0 ≤ 65536; decide⟩) (by decide) W q
    rw [dDo_write0 (by omega)] at this
    rw [x1]
    exact this
  have C4 : Hid (∀ W G2, WAtT W (.pointer (some ⟨b, 0, none⟩)) X 0 G2 → Calls Try.prog 11 #[.pointer (some ⟨b, 0, none⟩)] W fun e w' => e = .returned (.tuple #[]) ∧ WPo W (.pointer (some ⟨b, 0, none⟩)) G2 X X.size w') := fun W G2 q => wsync_any ⟨Nat.zero_le _, by omega⟩ W q
  have HGoal : Hid (∀ w', WPo w (.pointer (some ⟨b, 0, none⟩)) (fun k => k = b ∨ G k) X X.size w' → CraP w (.pointer (some ⟨b, 0, none⟩)) (fun k => k = b ∨ G k) l n K w') := fun w' q => by
    unfold CraP
    rw [wy_all, hX]
    exact q
  have p1 : (0 : Int) ≤ (m : Int) := by omega
  have p2 : (m : Int) ≤ (R.size : Int) := by omega
  have p3 : ¬ (m : Int) < 0 := by omega
  have p4 : ¬ (R.size : Int) < (m : Int) := by omega
  have H1 : Hid (w.frozen? ⟨b, 0, none⟩ = false) := h1
  have H3 : Hid (¬ G b) := h3
  have H0 : Hid (w.cell? ⟨b, 0, none⟩ = some (.pointer (some d))) := h0
  have HB : Hid (b < w.heap.size) := hb
  clear hR hX hm hRz x1 x2 x3 h1 h2 h3 hk hK
  go_enter Try.func13, Try.ntmps13
  go_wp2_with fail
  refine C1.out.mono ?_
  rintro e w1 ⟨G', rfl, a1, a2, a3⟩
  have HC1 : Hid (Chg G w w1) := a3
  have HD1 : Hid (DAt w1 (.pointer (some d)) R R.size G') := a1
  have HZ1 : Hid (w1.frozen? ⟨b, 0, none⟩ = false) := (a3.frozen HB.out H3.out).trans H1.out
  have c1 : w1.cell? ⟨b, 0, none⟩ = some (.pointer (some d)) := (a3.cell HB.out H3.out).trans H0.out
  have hb1 : b < w1.heap.size := Nat.lt_of_lt_of_le HB.out a3.size
  clear a1 a2 a3 C1 hb h0
  go_wp2_with fail
  refine (dtext_any _ HD1.out).mono ?_
  rintro e w2 ⟨rfl, HX⟩
  have HX2 : Hid (Ext w1 w2) := HX
  clear HX HD1
  go_wp2_with fail
  refine (C2.out _).mono ?_
  rintro e w3 ⟨u, rfl, HX⟩
  have HX3 : Hid (Ext w1 w3) := HX2.out.trans HX
  clear HX HX2 C2
  go_wp2_with fail
  refine (dnew_any _).mono ?_
  rintro e w4 ⟨v2, G2, rfl, HD, HF, HX⟩
  obtain ⟨d2, rfl⟩ := HD.form
  have hx4 := HX3.out.trans HX
  have c4 : w4.cell? ⟨b, 0, none⟩ = some (.pointer (some d)) := later hx4 c1
  have f4 : w4.frozen? ⟨b, 0, none⟩ = false := (World.frozen?_of_block (a := ⟨b, 0, none⟩) (Below.block hx4 b hb1)).trans HZ1.out
  have hb4 : b < w4.heap.size := Nat.lt_of_lt_of_le hb1 hx4.size
  have HP4 : Hid (Sub (fun k => k = b ∨ G2 k) (fun k => k = b ∨ G k) w ∧ Chg (fun k => k = b ∨ G k) w (w4.setCell ⟨b, 0, none⟩ (.pointer (some d2)))) := move_blocks (HC1.out.thenExt hx4) (fun k q => by have := HF k q; have := HX3.out.size; have := HC1.out.size; omega)
  have HD4 : Hid (DAt (w4.setCell ⟨b, 0, none⟩ (.pointer (some d2))) (.pointer (some d2)) ⟨#[]⟩ 0 G2 ∧ ¬ G2 b) := by
    have hnb : ¬ G2 b := fun q => by have := HF b q; have := HX3.out.size; omega
    exact ⟨HD.far (Chg.st (F := fun k => k = b) (.inl rfl) (Chg.refl _ w4)) (fun k q1 q2 => by have q2 : k = b := q2; subst q2; exact hnb q1), hnb⟩
  clear HD HF HX hx4 c1 HZ1 hb1 HC1 HX3
  go_wp2_with fail
  have e4 : (w4.setCell ⟨b, 0, none⟩ (.pointer (some d2))).cell? ⟨b, 0, none⟩ = some (.pointer (some d2)) := by simp [World.cell?_setCell_same, c4]
  have g4 : (w4.setCell ⟨b, 0, none⟩ (.pointer (some d2))).frozen? ⟨b, 0, none⟩ = false := by simp [f4]
  have hb5 : b < (w4.setCell ⟨b, 0, none⟩ (.pointer (some d2))).heap.size := by simpa using hb4
  clear c4 f4 hb4
  generalize w4.setCell ⟨b, 0, none⟩ (.pointer (some d2)) = w5 at *
  have HS : (fun wx : World => wx.cell? ⟨b, 0, none⟩ = some (.pointer (some d2)) ∧ b < wx.heap.size) w5.drew := ⟨e4, hb5⟩
  have HPP : Hid (∀ w6 G3, DAt w6 (.pointer (some d2)) X 0 G3 → Sub G3 G2 w5.drew → Chg G2 w5.drew w6 → WPo w (.pointer (some ⟨b, 0, none⟩)) (fun k => k = b ∨ G k) X 0 w6) := fun w6 G3 a1 a2 a3 => by
    obtain ⟨q2, q3⟩ := HP4.out
    obtain ⟨s1, s2, s3⟩ := WAtT.step (w := w5.drew) hb5 e4 g4 HD4.out.2 a1 a2 a3
    exact ⟨_, s1, q2.trans s2 q3.size, q3.drew.trans s3 q2⟩
  refine wp_region_noPanic ?_
  refine wp_region_held (S := fun wx : World => wx.cell? ⟨b, 0, none⟩ = some (.pointer (some d2)) ∧ b < wx.heap.size) (by kernel_rfl) ?_
  rw [show ({ w5 with drawn := w5.drawn + 1 } : World) = w5.drew from rfl]
  refine held_take (i := 0) (v := ?vc0) rfl (by kernel_rfl) (by kernel_rfl) (by kernel_rfl) (fun _ _ _ h => h) rfl ?hyc0 HS ?restc0
  case hyc0 => (intro wx hSx; go_simp; try with_reducible rfl)
  try simp only [Act.put, List.setIfInBounds_toArray, List.set_cons_zero, List.set_cons_succ]
  refine held_take (i := 1) (v := ?vc1) rfl (by kernel_rfl) (by kernel_rfl) (by kernel_rfl) (fun _ _ _ h => h) rfl ?hyc1 HS ?restc1
  case hyc1 => (intro wx hSx; go_simp; try with_reducible rfl)
  try simp only [Act.put, List.setIfInBounds_toArray, List.set_cons_zero, List.set_cons_succ]
  refine held_take (i := 2) (v := ?vc2) rfl (by kernel_rfl) (by kernel_rfl) (by kernel_rfl) (fun _ _ _ h => h) rfl ?hyc2 HS ?restc2
  case hyc2 => (intro wx hSx; go_simp; try with_reducible rfl)
  try simp only [Act.put, List.setIfInBounds_toArray, List.set_cons_zero, List.set_cons_succ]
  refine held_take (i := 3) (v := ?vc3) rfl (by kernel_rfl) (by kernel_rfl) (by kernel_rfl) (fun _ _ _ h => h) rfl ?hyc3 HS ?restc3
  case hyc3 => (intro wx hSx; obtain ⟨z0, zb⟩ := hSx; go_simp; try with_reducible rfl)
  try simp only [Act.put, List.setIfInBounds_toArray, List.set_cons_zero, List.set_cons_succ]
  refine held_take (i := 4) (v := ?vc4) rfl (by kernel_rfl) (by kernel_rfl) (by kernel_rfl) (fun _ _ _ h => h) rfl ?hyc4 HS ?restc4
  case hyc4 => (intro wx hSx; go_simp; try with_reducible rfl)
  try simp only [Act.put, List.setIfInBounds_toArray, List.set_cons_zero, List.set_cons_succ]
  refine held_take (i := 5) (v := ?vc5) rfl (by kernel_rfl) (by kernel_rfl) (by kernel_rfl) (fun _ _ _ h => h) rfl ?hyc5 HS ?restc5
  case hyc5 => (intro wx hSx; go_simp; try with_reducible rfl)
  try simp only [Act.put, List.setIfInBounds_toArray, List.set_cons_zero, List.set_cons_succ]
  refine held_take (i := 6) (v := ?vc6) rfl (by kernel_rfl) (by kernel_rfl) (by kernel_rfl) (fun _ _ _ h => h) rfl ?hyc6 HS ?restc6
  case hyc6 => (intro wx hSx; go_simp; try with_reducible rfl)
  try simp only [Act.put, List.setIfInBounds_toArray, List.set_cons_zero, List.set_cons_succ]
  refine held_take (i := 7) (v := ?vc7) rfl (by kernel_rfl) (by kernel_rfl) (by kernel_rfl) (fun _ _ _ h => h) rfl ?hyc7 HS ?restc7
  case hyc7 => (intro wx hSx; go_simp; try with_reducible rfl)
  try simp only [Act.put, List.setIfInBounds_toArray, List.set_cons_zero, List.set_cons_succ]
  refine held_one (i := 8) (by kernel_rfl) rfl rfl (fun K hK => ?_)
  go_simp
  refine (C3.out _ d2 G2 (HD4.out.1.ext (Ext.refl _).drew)).mono ?_
  rintro e w6 ⟨G3, rfl, a1, a2, a3⟩
  have HS6 : (fun wx : World => wx.cell? ⟨b, 0, none⟩ = some (.pointer (some d2)) ∧ b < wx.heap.size) w6 := ⟨(a3.cell hb5 HD4.out.2).trans e4, Nat.lt_of_lt_of_le hb5 a3.size⟩
  have HP6 : Hid (WPo w (.pointer (some ⟨b, 0, none⟩)) (fun k => k = b ∨ G k) X 0 w6) := HPP.out w6 G3 a1 a2 a3
  clear a1 a2 a3 HPP
  try go_simp
  refine hK.out _ _ ⟨HS6, ?_⟩
  clear hK K
  try simp only [Act.put, List.setIfInBounds_toArray, List.set_cons_zero, List.set_cons_succ]
  refine wpAnyH_done (by kernel_rfl) ?_ _
  refine NoPanic.normal ?_
  obtain ⟨F6, q1, q2, q3⟩ := HP6.out
  have HW6 : Hid (WAtT w6 (.pointer (some ⟨b, 0, none⟩)) X 0 F6) := q1
  have HG6 : Hid (∀ w7, WPo w6 (.pointer (some ⟨b, 0, none⟩)) F6 X X.size w7 → CraP w (.pointer (some ⟨b, 0, none⟩)) (fun k => k = b ∨ G k) l n K w7) := fun w7 q => by
    obtain ⟨F7, r1, r2, r3⟩ := q
    exact HGoal.out w7 ⟨F7, r1, q2.trans r2 q3.size, q3.trans r3 q2⟩
  clear q1 q2 q3 HP4 HD4 e4 g4 hb5 HS HS6 HGoal
  go_wp2_with fail
  refine (C4.out _ _ HW6.out).mono ?_
  rintro e w7 ⟨rfl, HP7⟩
  have HQ := HG6.out w7 HP7
  go_wp2
  refine bodyPost_end (v := .tuple #[]) (by simp [results, Try.results13, go_sem]) rfl ⟨rfl, HQ⟩
end Go.Proofs.Ytbkdjpialjbhnaa

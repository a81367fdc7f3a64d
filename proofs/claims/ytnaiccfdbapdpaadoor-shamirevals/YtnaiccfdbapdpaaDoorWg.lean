/-
  shamir.weight, called at places that may be: the weight of one of them; nothing old is turned.
-/
import Derived.Test.YtnaiccfdbapdpaaDoorPl
import Derived.Test.YtnaiccfdbapdpaaDoorSr
namespace Go.Proofs.YtnaiccfdbapdpaaDoor
open Go.RowKit
def WR (w : World) (g : Nat) (u0 u1 u2 u3 : Int) (wx : World) : Prop := Row wx g u0 u1 u2 u3 ∧ Ext w wx
theorem WR.ext {w wx wy : World} {g : Nat} {u0 u1 u2 u3 : Int} (h : WR w g u0 u1 u2 u3 wx) (hx : Ext wx wy) : WR w g u0 u1 u2 u3 wy := ⟨h.1.ext hx, h.2.trans hx⟩
set_option maxHeartbeats 8000000 in
set_option maxRecDepth 10000 in
theorem weight_any (v : Value) (n i : Nat) (P : Nat → Int) (hi : i < n) (hok : OkT P n) (hn : n ≤ 1000) (w : World) (hG : Gl w) (hL : Lies w v n 1 (fun k => .int .i64 (P k))) :
    Calls Tryd.prog 33 #[v, .int .i64 (P i)] w fun e w' => e = .returned (.agg #[.int .u64 (qw (wI P i n) 0), .int .u64 (qw (wI P i n) 1), .int .u64 (qw (wI P i n) 2), .int .u64 (qw (wI P i n) 3)]) ∧ Ext w w' := by
  obtain ⟨a, cap, rfl, hL'⟩ := hL
  have HL : Hid (Lies w (.slice a n cap) n 1 (fun k => .int .i64 (P k))) := ⟨a, cap, rfl, hL'⟩
  have HG : Hid (Gl w) := hG
  have HOk : Hid (OkT P n) := hok
  have HNum : Hid (∀ k, k < n → ∀ W, Calls Tryd.prog 25 #[.int .i64 (P k)] W fun e w' => e = .returned (.agg #[.int .u64 (P k), .int .u64 0, .int .u64 0, .int .u64 0]) ∧ Ext W w') := fun k hk W => by
    have := (hok k hk).1
    exact pnum_any (P k) (by omega) (by omega) W
  have HLim : Hid (∀ k, k < n → Lim4 (P k) 0 0 0) := fun k hk => by
    have := (hok k hk).1
    exact lim_one (by unfold Lim; omega)
  have HU0 : Hid (QMod (prE P i 0) 1 0 0 0) := one_mod
  have HD0 : Hid (QMod (prE (fun k => P k - P i) i 0) 1 0 0 0) := one_mod
  clear hL' hG hok
  have RZ0 := (RowF.new w 0 0 0 0).ext (((Ext.refl _).alloc (.cells #[.int .u64 1, .int .u64 0, .int .u64 0, .int .u64 0] 26)).alloc (.cells #[.int .u64 1, .int .u64 0, .int .u64 0, .int .u64 0] 26))
  have RU0 := (RowF.new (w.alloc (.cells #[.int .u64 0, .int .u64 0, .int .u64 0, .int .u64 0] 26)) 1 0 0 0).ext ((Ext.refl _).alloc (.cells #[.int .u64 1, .int .u64 0, .int .u64 0, .int .u64 0] 26))
  have RD0 := RowF.new ((w.alloc (.cells #[.int .u64 0, .int .u64 0, .int .u64 0, .int .u64 0] 26)).alloc (.cells #[.int .u64 1, .int .u64 0, .int .u64 0, .int .u64 0] 26)) 1 0 0 0
  rw [show (w.alloc (.cells #[.int .u64 0, .int .u64 0, .int .u64 0, .int .u64 0] 26)).heap.size = w.heap.size + 1 from by simp] at RU0
  rw [show ((w.alloc (.cells #[.int .u64 0, .int .u64 0, .int .u64 0, .int .u64 0] 26)).alloc (.cells #[.int .u64 1, .int .u64 0, .int .u64 0, .int .u64 0] 26)).heap.size = w.heap.size + 1 + 1 from by simp] at RD0
  have HE0 : Hid (Ext w (((w.alloc (.cells #[.int .u64 0, .int .u64 0, .int .u64 0, .int .u64 0] 26)).alloc (.cells #[.int .u64 1, .int .u64 0, .int .u64 0, .int .u64 0] 26)).alloc (.cells #[.int .u64 1, .int .u64 0, .int .u64 0, .int .u64 0] 26))) := (((Ext.refl _).alloc _).alloc _).alloc _
  have HBz : SizeLe w w.heap.size := Nat.le_refl _
  have HB8 : SizeLe w (w.heap.size + 1) := Nat.le_succ _
  have HB9 : SizeLe w (w.heap.size + 1 + 1) := Nat.le_succ_of_le (Nat.le_succ _)
  go_enter Tryd.func33, Tryd.ntmps33
  go_wp2
  generalize ((w.alloc (.cells #[.int .u64 0, .int .u64 0, .int .u64 0, .int .u64 0] 26)).alloc (.cells #[.int .u64 1, .int .u64 0, .int .u64 0, .int .u64 0] 26)).alloc (.cells #[.int .u64 1, .int .u64 0, .int .u64 0, .int .u64 0] 26) = W0 at *
  obtain ⟨g9, hg9⟩ : ∃ g9, w.heap.size + 1 + 1 = g9 := ⟨_, rfl⟩
  obtain ⟨g8, hg8⟩ : ∃ g8, w.heap.size + 1 = g8 := ⟨_, rfl⟩
  obtain ⟨z, hz⟩ : ∃ z, w.heap.size = z := ⟨_, rfl⟩
  rw [hg9] at RD0 HB9 ⊢
  rw [hg8] at RU0 HB8 ⊢
  rw [hz] at RZ0 HBz ⊢
  have h89 : g8 ≠ g9 := by omega
  have h98 : g9 ≠ g8 := by omega
  have hz8 : z ≠ g8 := by omega
  have hz9 : z ≠ g9 := by omega
  clear hg8 hg9 hz
  go_loopw [13] (fun u13 wr => ∃ (k : Nat) (p0 p1 p2 p3 q0 q1 q2 q3 : Int), k ≤ n ∧ u13 = .int .i64 (k : Int) ∧ RowF wr z 0 0 0 0 ∧ RowF wr g8 p0 p1 p2 p3 ∧ RowF wr g9 q0 q1 q2 q3 ∧ Hid (QMod (prE P i k) p0 p1 p2 p3) ∧ Hid (QMod (prE (fun k => P k - P i) i k) q0 q1 q2 q3) ∧ Hid (Ext w wr)) (fun u13 _ => n - (intOf u13).toNat)
  case atStart => exact ⟨0, 1, 0, 0, 0, 1, 0, 0, 0, Nat.zero_le _, rfl, RZ0, RU0, RD0, HU0, HD0, HE0⟩
  case round =>
    obtain ⟨k, p0, p1, p2, p3, q0, q1, q2, q3, hk, rfl, Rz, Ru, Rd, HUp, HDn, HE⟩ := hrel
    clear RZ0 RU0 RD0 HU0 HD0 HE0
    by_cases hlk : k < n
    · have h1 : (k : Int) < (n : Int) := by omega
      have h0 : (0 : Int) ≤ (k : Int) := by omega
      have hw : IntKind.i64.wrap ((k : Int) + 1) = (k : Int) + 1 := by rw [IntKind.wrap_i64]; omega
      obtain ⟨b, o, rfl, hb, x0⟩ := (HL.out.ext HE.out).int hlk
      by_cases hki : k = i
      · subst hki
        have HU1 : Hid (QMod (prE P k (k + 1)) p0 p1 p2 p3) := skip_step HUp.out
        have HD1 : Hid (QMod (prE (fun j => P j - P k) k (k + 1)) q0 q1 q2 q3) := skip_step HDn.out
        go_wp2
        go_roundw
        case rel => exact ⟨k + 1, p0, p1, p2, p3, q0, q1, q2, q3, hlk, by push_cast; rfl, Rz, Ru, Rd, HU1, HD1, HE⟩
        case measure => simp [intOf]; omega
      · have hne : P k ≠ P i := by
          rcases Nat.lt_or_ge k i with h | h
          · exact (HOk.out i hi).2 k h
          · exact fun e => (HOk.out k hlk).2 i (by omega) e.symm
        have hS0 : WR w g8 p0 p1 p2 p3 wr.drew := ⟨Ru.1.ext (Ext.drew (Ext.refl _)), HE.out.drew⟩
        go_wp2_with fail
        refine wp_region_noPanic ?_
        refine wp_region_until (X := 4) (S := WR w g8 p0 p1 p2 p3) (by kernel_rfl) ?_
        refine until_take (i := 0) (v := ?vu0) rfl (by kernel_rfl) (by kernel_rfl) (by kernel_rfl) (by kernel_rfl) (by kernel_rfl) (fun _ _ _ h => h) rfl ?hyu0 hS0 ?restu0
        case hyu0 => (intro w hSw; obtain ⟨⟨_, y0, y1, y2, y3⟩, _⟩ := hSw; go_simp; try with_reducible rfl)
        try simp only [Act.put, List.setIfInBounds_toArray, List.set_cons_zero, List.set_cons_succ]
        refine until_take (i := 1) (v := ?vu1) rfl (by kernel_rfl) (by kernel_rfl) (by kernel_rfl) (by kernel_rfl) (by kernel_rfl) (fun _ _ _ h => h) rfl ?hyu1 hS0 ?restu1
        case hyu1 => (intro w hSw; obtain ⟨⟨_, y0, y1, y2, y3⟩, _⟩ := hSw; go_simp; try with_reducible rfl)
        try simp only [Act.put, List.setIfInBounds_toArray, List.set_cons_zero, List.set_cons_succ]
        refine until_one (i := 2) (by kernel_rfl) (by kernel_rfl) rfl rfl (fun K hK => ?_)
        go_simp
        refine (HNum.out k hlk _).mono ?_
        rintro e w3 ⟨rfl, HX3⟩
        have hS3 := hS0.ext HX3
        go_simp
        refine hK.out _ _ hS3 ?_
        clear hK K
        try simp only [Act.put, List.setIfInBounds_toArray, List.set_cons_zero, List.set_cons_succ]
        refine until_one (i := 3) (by kernel_rfl) (by kernel_rfl) rfl rfl (fun K hK => ?_)
        go_simp
        refine (smul_any _ _ _ _ _ _ _ _ HUp.out.1 (HLim.out k hlk) _ (HG.out.ext hS3.2)).mono ?_
        rintro e w4 ⟨m0, m1, m2, m3, rfl, HM, HX4⟩
        have hS4 := hS3.ext HX4
        go_simp
        refine hK.out _ _ hS4 ?_
        clear hK K
        try simp only [Act.put, List.setIfInBounds_toArray, List.set_cons_zero, List.set_cons_succ]
        refine until_last (by kernel_rfl) (by kernel_rfl) rfl rfl (fun K hK => ?_)
        have HXX : Ext wr w4 := (Ext.refl _).drew.trans (HX3.trans HX4)
        have Ru4 := Ru.ext HXX
        have Rd4 := Rd.ext HXX
        have Rz4 := Rz.ext HXX
        have HE4 : Hid (Ext w w4) := hS4.2
        have Ru5 := Ru4
        clear hS0 hS3 hS4 HX3 HX4 HXX Ru Rd Rz HE
        obtain ⟨⟨la, y0, y1, y2, y3⟩, f0, f1, f2, f3⟩ := Ru5
        go_simp
        refine hK.out _ _ (NoPanic.normal ?_)
        clear hK K
        try simp only [Act.put, List.setIfInBounds_toArray, List.set_cons_zero, List.set_cons_succ]
        have HU1 : Hid (QMod (prE P i (k + 1)) m0 m1 m2 m3) := up_step hki HUp.out HM.out
        obtain ⟨W4, hW4⟩ : ∃ W4, (((w4.setCell ⟨g8, 0, none⟩ (.int .u64 m0)).setCell ⟨g8, 1, none⟩ (.int .u64 m1)).setCell ⟨g8, 2, none⟩ (.int .u64 m2)).setCell ⟨g8, 3, none⟩ (.int .u64 m3) = W4 := ⟨_, rfl⟩
        rw [hW4]
        have Ru6 : RowF W4 g8 m0 m1 m2 m3 := by rw [← hW4]; exact RowF.set Ru4
        have Rd6 : RowF W4 g9 q0 q1 q2 q3 := by rw [← hW4]; exact Rd4.other h98 |>.other h98 |>.other h98 |>.other h98
        have Rz6 : RowF W4 z 0 0 0 0 := by rw [← hW4]; exact Rz4.other hz8 |>.other hz8 |>.other hz8 |>.other hz8
        have HE6 : Hid (Ext w W4) := by rw [← hW4]; exact Ext.st HB8 (Ext.st HB8 (Ext.st HB8 (Ext.st HB8 HE4.out)))
        clear Ru4 Rd4 Rz4 HE4 y0 y1 y2 y3 f0 f1 f2 f3 la hW4
        have hT0 : WR w g9 q0 q1 q2 q3 W4.drew := ⟨Rd6.1.ext (Ext.drew (Ext.refl _)), HE6.out.drew⟩
        go_wp2_with fail
        refine wp_region_noPanic ?_
        refine wp_region_until (X := 7) (S := WR w g9 q0 q1 q2 q3) (by kernel_rfl) ?_
        refine until_take (i := 0) (v := ?vd0) rfl (by kernel_rfl) (by kernel_rfl) (by kernel_rfl) (by kernel_rfl) (by kernel_rfl) (fun _ _ _ h => h) rfl ?hyd0 hT0 ?restd0
        case hyd0 => (intro w hSw; obtain ⟨⟨_, y0, y1, y2, y3⟩, _⟩ := hSw; go_simp; try with_reducible rfl)
        try simp only [Act.put, List.setIfInBounds_toArray, List.set_cons_zero, List.set_cons_succ]
        refine until_take (i := 1) (v := ?vd1) rfl (by kernel_rfl) (by kernel_rfl) (by kernel_rfl) (by kernel_rfl) (by kernel_rfl) (fun _ _ _ h => h) rfl ?hyd1 hT0 ?restd1
        case hyd1 => (intro w hSw; obtain ⟨⟨_, y0, y1, y2, y3⟩, _⟩ := hSw; go_simp; try with_reducible rfl)
        try simp only [Act.put, List.setIfInBounds_toArray, List.set_cons_zero, List.set_cons_succ]
        refine until_take (i := 3) (v := ?vd3) rfl (by kernel_rfl) (by kernel_rfl) (by kernel_rfl) (by kernel_rfl) (by kernel_rfl) (fun _ _ _ h => h) rfl ?hyd3 hT0 ?restd3
        case hyd3 => (intro w hSw; obtain ⟨⟨_, y0, y1, y2, y3⟩, _⟩ := hSw; go_simp; try with_reducible rfl)
        try simp only [Act.put, List.setIfInBounds_toArray, List.set_cons_zero, List.set_cons_succ]
        refine until_one (i := 2) (by kernel_rfl) (by kernel_rfl) rfl rfl (fun K hK => ?_)
        go_simp
        refine (HNum.out k hlk _).mono ?_
        rintro e w5 ⟨rfl, HX5⟩
        have hT5 := hT0.ext HX5
        go_simp
        refine hK.out _ _ hT5 ?_
        clear hK K
        try simp only [Act.put, List.setIfInBounds_toArray, List.set_cons_zero, List.set_cons_succ]
        refine until_one (i := 4) (by kernel_rfl) (by kernel_rfl) rfl rfl (fun K hK => ?_)
        go_simp
        refine (HNum.out i hi _).mono ?_
        rintro e w6 ⟨rfl, HX6⟩
        have hT6 := hT5.ext HX6
        go_simp
        refine hK.out _ _ hT6 ?_
        clear hK K
        try simp only [Act.put, List.setIfInBounds_toArray, List.set_cons_zero, List.set_cons_succ]
        refine until_one (i := 5) (by kernel_rfl) (by kernel_rfl) rfl rfl (fun K hK => ?_)
        go_simp
        refine (ssub_any _ _ _ _ _ _ _ _ (HLim.out k hlk) (HLim.out i hi) _ (HG.out.ext hT6.2)).mono ?_
        rintro e w7 ⟨e0, e1, e2, e3, rfl, HDf, HX7⟩
        have hT7 := hT6.ext HX7
        go_simp
        refine hK.out _ _ hT7 ?_
        clear hK K
        try simp only [Act.put, List.setIfInBounds_toArray, List.set_cons_zero, List.set_cons_succ]
        refine until_one (i := 6) (by kernel_rfl) (by kernel_rfl) rfl rfl (fun K hK => ?_)
        go_simp
        refine (smul_any _ _ _ _ _ _ _ _ HDn.out.1 HDf.out.1 _ (HG.out.ext hT7.2)).mono ?_
        rintro e w8 ⟨t0, t1, t2, t3, rfl, HT, HX8⟩
        have hT8 := hT7.ext HX8
        go_simp
        refine hK.out _ _ hT8 ?_
        clear hK K
        try simp only [Act.put, List.setIfInBounds_toArray, List.set_cons_zero, List.set_cons_succ]
        refine until_last (by kernel_rfl) (by kernel_rfl) rfl rfl (fun K hK => ?_)
        have HXX : Ext W4 w8 := (Ext.refl _).drew.trans (HX5.trans (HX6.trans (HX7.trans HX8)))
        have Ru8 := Ru6.ext HXX
        have Rd8 := Rd6.ext HXX
        have Rz8 := Rz6.ext HXX
        have HE8 : Hid (Ext w w8) := hT8.2
        have Rd9 := Rd8
        clear hT0 hT5 hT6 hT7 hT8 HX5 HX6 HX7 HX8 HXX Ru6 Rd6 Rz6 HE6
        obtain ⟨⟨la, y0, y1, y2, y3⟩, f0, f1, f2, f3⟩ := Rd9
        go_simp
        refine hK.out _ _ (NoPanic.normal ?_)
        clear hK K
        try simp only [Act.put, List.setIfInBounds_toArray, List.set_cons_zero, List.set_cons_succ]
        have HD1 : Hid (QMod (prE (fun k => P k - P i) i (k + 1)) t0 t1 t2 t3) := down_step hki HDn.out HDf.out HT.out
        go_wp2
        go_roundw
        case rel => exact ⟨k + 1, m0, m1, m2, m3, t0, t1, t2, t3, hlk, by push_cast; rfl, Rz8.other hz9 |>.other hz9 |>.other hz9 |>.other hz9, Ru8.other h89 |>.other h89 |>.other h89 |>.other h89, RowF.set Rd8, HU1, HD1, Ext.st HB9 (Ext.st HB9 (Ext.st HB9 (Ext.st HB9 HE8.out)))⟩
        case measure => simp [intOf]; omega
    · obtain rfl : k = n := by omega
      obtain ⟨n, rfl⟩ : ∃ n, n = k := ⟨k, rfl⟩
      have hS0 : WE w g8 g9 p0 p1 p2 p3 q0 q1 q2 q3 wr.drew := ⟨Ru.1.ext (Ext.drew (Ext.refl _)), Rd.1.ext (Ext.drew (Ext.refl _)), HE.out.drew⟩
      go_wp2_with fail
      refine wp_region_noPanic ?_
      refine wp_region_until (X := 4) (S := WE w g8 g9 p0 p1 p2 p3 q0 q1 q2 q3) (by kernel_rfl) ?_
      refine until_take (i := 0) (v := ?ve0) rfl (by kernel_rfl) (by kernel_rfl) (by kernel_rfl) (by kernel_rfl) (by kernel_rfl) (fun _ _ _ h => h) rfl ?hye0 hS0 ?reste0
      case hye0 => (intro w hSw; obtain ⟨⟨_, y0, y1, y2, y3⟩, ⟨_, z0, z1, z2, z3⟩, _⟩ := hSw; go_simp; try with_reducible rfl)
      try simp only [Act.put, List.setIfInBounds_toArray, List.set_cons_zero, List.set_cons_succ]
      refine until_take (i := 1) (v := ?ve1) rfl (by kernel_rfl) (by kernel_rfl) (by kernel_rfl) (by kernel_rfl) (by kernel_rfl) (fun _ _ _ h => h) rfl ?hye1 hS0 ?reste1
      case hye1 => (intro w hSw; obtain ⟨⟨_, y0, y1, y2, y3⟩, ⟨_, z0, z1, z2, z3⟩, _⟩ := hSw; go_simp; try with_reducible rfl)
      try simp only [Act.put, List.setIfInBounds_toArray, List.set_cons_zero, List.set_cons_succ]
      refine until_one (i := 2) (by kernel_rfl) (by kernel_rfl) rfl rfl (fun K hK => ?_)
      go_simp
      refine (sinv_any _ _ _ _ HDn.out.1 _ (HG.out.ext hS0.2.2)).mono ?_
      rintro e w3 ⟨v0, v1, v2, v3, rfl, HV, HX3⟩
      have hS3 := hS0.ext HX3
      go_simp
      refine hK.out _ _ hS3 ?_
      clear hK K
      try simp only [Act.put, List.setIfInBounds_toArray, List.set_cons_zero, List.set_cons_succ]
      refine until_one (i := 3) (by kernel_rfl) (by kernel_rfl) rfl rfl (fun K hK => ?_)
      go_simp
      refine (smul_any _ _ _ _ _ _ _ _ HUp.out.1 HV.out.1 _ (HG.out.ext hS3.2.2)).mono ?_
      rintro e w4 ⟨m0, m1, m2, m3, rfl, HM, HX4⟩
      have hS4 := hS3.ext HX4
      go_simp
      refine hK.out _ _ hS4 ?_
      clear hK K
      try simp only [Act.put, List.setIfInBounds_toArray, List.set_cons_zero, List.set_cons_succ]
      refine until_last (by kernel_rfl) (by kernel_rfl) rfl rfl (fun K hK => ?_)
      have HXX : Ext wr w4 := (Ext.refl _).drew.trans (HX3.trans HX4)
      have Rz4 := Rz.ext HXX
      have HE4 : Hid (Ext w w4) := hS4.2.2
      have HW : Hid (QMod (wI P i n) m0 m1 m2 m3) := wgt_end HUp.out HDn.out HV.out HM.out
      clear hS0 hS3 hS4 HX3 HX4 HXX Ru Rd Rz HE
      obtain ⟨⟨la, y0, y1, y2, y3⟩, f0, f1, f2, f3⟩ := Rz4
      go_simp
      refine hK.out _ _ (NoPanic.normal ?_)
      clear hK K
      try simp only [Act.put, List.setIfInBounds_toArray, List.set_cons_zero, List.set_cons_succ]
      obtain ⟨rfl, rfl, rfl, rfl⟩ := qw_one HW.out
      go_wp2
      refine bodyPost_ret (v := .agg #[.int .u64 (qw (wI P i n) 0), .int .u64 (qw (wI P i n) 1), .int .u64 (qw (wI P i n) 2), .int .u64 (qw (wI P i n) 3)]) (by simp [results, Tryd.results33, go_sem, y0, y1, y2, y3]) rfl ⟨rfl, ?_⟩
      exact Ext.st HBz (Ext.st HBz (Ext.st HBz (Ext.st HBz HE4.out)))
end Go.Proofs.YtnaiccfdbapdpaaDoor

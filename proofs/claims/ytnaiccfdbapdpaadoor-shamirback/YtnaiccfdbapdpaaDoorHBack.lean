/-
  ShamirBack, walked: it answers true; nothing old is turned.
-/
import Derived.Test.YtnaiccfdbapdpaaDoorHLaws
namespace Go.Proofs.YtnaiccfdbapdpaaDoor
open Go.RowKit
/-- What places answers. -/
def PlR (e : Ending) (x : Int) (m : Nat) (P : Nat → Int) : Prop := ((x ≤ (m : Int) ∧ m ≤ 8 ∧ OkP P m) ∧ e = .returned (.bool true)) ∨ (¬ (x ≤ (m : Int) ∧ m ≤ 8 ∧ OkP P m) ∧ e = .returned (.bool false))
set_option maxHeartbeats 4000000 in
set_option maxRecDepth 10000 in
theorem rplaces_any (v : Value) (m : Nat) (P : Nat → Int) (x : Int) (w : World) (hL : Lies w v m 1 (fun k => .int .i64 (P k))) :
    Calls Tryd.prog 19 #[v, .int .i64 x] w fun e w' => PlR e x m P ∧ Ext w w' := by
  obtain ⟨a, cap, rfl, hL'⟩ := hL
  have HL : Hid (Lies w (.slice a m cap) m 1 (fun k => .int .i64 (P k))) := ⟨a, cap, rfl, hL'⟩
  clear hL'
  go_enter Tryd.func19, Tryd.ntmps19
  by_cases h1 : (m : Int) < x
  · go_wp2
    go_ret
    exact ⟨.inr ⟨fun h => absurd h.1 (by omega), rfl⟩, Ext.refl w⟩
  by_cases h2 : (8 : Int) < (m : Int)
  · go_wp2
    go_ret
    exact ⟨.inr ⟨fun h => absurd h.2.1 (by omega), rfl⟩, Ext.refl w⟩
  have h3 : ¬ (8 : Int) < x := by omega
  go_wp2_with fail
  refine (rweights_any _ m P (by omega) _ HL.out).mono ?_
  rintro e w1 ⟨HX1, hc⟩
  have HE1 : Hid (Ext w w1) := HX1
  clear HX1
  rcases hc with ⟨ho, u, rfl, _⟩ | ⟨ho, rfl⟩
  · have HY : Hid (OkP P m) := ho
    clear ho
    go_wp2
    go_ret
    exact ⟨.inl ⟨⟨by omega, by omega, HY.out⟩, rfl⟩, HE1.out⟩
  · have HY : Hid (¬ OkP P m) := ho
    clear ho
    go_wp2
    go_ret
    exact ⟨.inr ⟨fun h => absurd h.2.2 HY.out, rfl⟩, HE1.out⟩
def BS (w : World) (b o : Nat) (x : Int) (wx : World) : Prop := wx.cell? ⟨b, o, none⟩ = some (.int .i64 x) ∧ Ext w wx
theorem BS.ext {w wx wy : World} {b o : Nat} {x : Int} (h : BS w b o x wx) (hx : Ext wx wy) : BS w b o x wy := ⟨later hx h.1, h.2.trans hx⟩
/-- As many values of a polynomial as coefficients, joined. -/
theorem back_mod {P : Nat → Int} {f : Nat → Nat → Int} {n m : Nat} {r0 r1 r2 r3 : Int} (hn : 0 < n) (hnm : n ≤ m) (ho : OkP P m)
    (h : QMod (smN (fun i => wI P i m * val (qw (evL (cfs f n) (P i)) 0) (qw (evL (cfs f n) (P i)) 1) (qw (evL (cfs f n) (P i)) 2) (qw (evL (cfs f n) (P i)) 3)) m) r0 r1 r2 r3) : QMod (val (f 0 0) (f 0 1) (f 0 2) (f 0 3)) r0 r1 r2 r3 := by
  refine h.cong ?_
  rw [lagI ho.dis (cfs f n) (by simp [cfs]; exact hnm) _ (fun i hi => by rw [(qw_mod _).2, Int.emod_emod_of_dvd _ (Int.dvd_refl _)])]
  obtain ⟨k, rfl⟩ : ∃ k, n = k + 1 := ⟨n - 1, by omega⟩
  unfold cfs
  rw [List.range_succ_eq_map, List.map_cons]
  show (val (f 0 0) (f 0 1) (f 0 2) (f 0 3) + 0 * _) % FQ = _
  rw [Int.zero_mul, Int.add_zero]
theorem keepB {W0 wx : World} {b c o : Nat} {x0 x1 x2 x3 : Int} {y0 y1 y2 y3 : Int} (hb : Ext W0 wx) (h : Row W0 b x0 x1 x2 x3) (k : W0.cell? ⟨c, o, none⟩ = some (.int .u64 y0) ∧ W0.cell? ⟨c, o + 1, none⟩ = some (.int .u64 y1) ∧ W0.cell? ⟨c, o + 2, none⟩ = some (.int .u64 y2) ∧ W0.cell? ⟨c, o + 3, none⟩ = some (.int .u64 y3)) : Ext W0 wx ∧ wx.cell? ⟨b, 0, none⟩ = some (.int .u64 x0) ∧ wx.cell? ⟨b, 1, none⟩ = some (.int .u64 x1) ∧ wx.cell? ⟨b, 2, none⟩ = some (.int .u64 x2) ∧ wx.cell? ⟨b, 3, none⟩ = some (.int .u64 x3) ∧ wx.cell? ⟨c, o, none⟩ = some (.int .u64 y0) ∧ wx.cell? ⟨c, o + 1, none⟩ = some (.int .u64 y1) ∧ wx.cell? ⟨c, o + 2, none⟩ = some (.int .u64 y2) ∧ wx.cell? ⟨c, o + 3, none⟩ = some (.int .u64 y3) :=
  ⟨hb, later hb h.2.1, later hb h.2.2.1, later hb h.2.2.2.1, later hb h.2.2.2.2, later hb k.1, later hb k.2.1, later hb k.2.2.1, later hb k.2.2.2⟩
attribute [local go_sem] run_eq4
set_option maxHeartbeats 16000000 in
set_option maxRecDepth 10000 in
theorem back_any (v u : Value) (n m : Nat) (f : Nat → Nat → Int) (P : Nat → Int) (hl : LimN f n) (hP : ∀ i, i < m → I64 (P i)) (w : World) (hG : Gl w) (hC : Lies w v n 4 (nc f)) (hA : Lies w u m 1 (fun k => .int .i64 (P k))) :
    Calls Tryd.prog 6 #[v, u] w fun e w' => e = .returned (.bool true) ∧ Ext w w' := by
  obtain ⟨i0, hi0, hz0, hz1, hz2⟩ := info_parts info47
  obtain ⟨a, cap, rfl, hC'⟩ := hC
  have HC : Hid (Lies w (.slice a n cap) n 4 (nc f)) := ⟨a, cap, rfl, hC'⟩
  obtain ⟨d, cad, rfl, hA'⟩ := hA
  have HA : Hid (Lies w (.slice d m cad) m 1 (fun k => .int .i64 (P k))) := ⟨d, cad, rfl, hA'⟩
  have HG : Hid (Gl w) := hG
  have HLm : Hid (LimN f n) := hl
  have HP : Hid (∀ i, i < m → I64 (P i)) := hP
  clear hC' hA' hG hl hP
  have HE0 : Hid (Ext w w) := Ext.refl w
  go_enter Tryd.func6, Tryd.ntmps6
  by_cases hn0 : n = 0
  · subst hn0
    go_wp2_with fail
    refine (awake_any _ HG.out).mono ?_
    rintro e w1 ⟨rfl, HX1⟩
    have HE1 : Hid (Ext w w1) := HX1
    clear HX1
    go_wp2
    go_ret
    exact ⟨rfl, HE1.out⟩
  have hnz : ((n : Int) == 0) = false := by simp; omega
  go_wp2_with fail
  refine (rplaces_any _ m P (n : Int) _ HA.out).mono ?_
  rintro e w1 ⟨hbp, HX1⟩
  have HE1 : Hid (Ext w w1) := HX1
  clear HX1 HE0
  rcases hbp with ⟨hbp, rfl⟩ | ⟨hbp, rfl⟩
  rotate_left
  · clear hbp
    go_wp2_with fail
    refine (awake_any _ (HG.out.ext HE1.out)).mono ?_
    rintro e w2 ⟨rfl, HX2⟩
    have HE2 : Hid (Ext w w2) := HE1.out.trans HX2
    clear HX2
    go_wp2
    go_ret
    exact ⟨rfl, HE2.out⟩
  · obtain ⟨hnm, hm8, hok⟩ := hbp
    have hnm2 : n ≤ m := by omega
    have HOk : Hid (OkP P m) := hok
    clear hnm hok
    obtain ⟨X, hX⟩ : ∃ X, Hid ((fun i => evL (cfs f n) (P i)) = X) := ⟨_, rfl⟩
    have HEv : Hid (∀ i, i < m → ∀ W, Ext w W → Calls Tryd.prog 9 #[.slice a n cap, .int .i64 (P i)] W fun e w' => e = .returned (.agg #[.int .u64 (qw (X i) 0), .int .u64 (qw (X i) 1), .int .u64 (qw (X i) 2), .int .u64 (qw (X i) 3)]) ∧ Ext W w') := by
      intro i hi W hW
      refine (seval_any _ n f (P i) (HP.out i hi) (by omega) HLm.out W (HG.out.ext hW) (HC.out.ext hW)).mono ?_
      rintro e w' ⟨r0, r1, r2, r3, rfl, HQ, HX⟩
      obtain ⟨rfl, rfl, rfl, rfl⟩ := qw_one HQ.out
      rw [(okp_i64 HOk.out.2 hi).2, ← hX.out]
      exact ⟨rfl, HX⟩
    have HBm : Hid (∀ r0 r1 r2 r3, QMod (smN (fun i => wI P i m * val (qw (X i) 0) (qw (X i) 1) (qw (X i) 2) (qw (X i) 3)) m) r0 r1 r2 r3 → QMod (val (f 0 0) (f 0 1) (f 0 2) (f 0 3)) r0 r1 r2 r3) := by
      rw [← hX.out]
      exact fun r0 r1 r2 r3 h => back_mod (by omega) hnm2 HOk.out h
    clear hX
    have HO0 : Hid (w1.ownsRow w.heap.size 47 5 (.slice none 0 0) 0 (shs P X 0)) := World.ownsRow_nil _ _ _ _
    go_wp2
    go_loopw [5, 6] (fun u5 u6 wr => ∃ i : Nat, i ≤ m ∧ u6 = .int .i64 (i : Int) ∧ Hid (wr.ownsRow w.heap.size 47 5 u5 i (shs P X i)) ∧ Hid (Ext w wr)) (fun _ u6 _ => m - (intOf u6).toNat)
    case atStart => exact ⟨0, Nat.zero_le _, rfl, HO0, HE1⟩
    case round =>
      obtain ⟨i, hi, rfl, HOr, HE⟩ := hrel
      clear HO0 HE1
      by_cases hlt : i < m
      · have h1 : (i : Int) < (m : Int) := by omega
        have h0 : (0 : Int) ≤ (i : Int) := by omega
        have hw : IntKind.i64.wrap ((i : Int) + 1) = (i : Int) + 1 := by rw [IntKind.wrap_i64]; omega
        obtain ⟨b, o, rfl, hb, x0⟩ := HA.out.int hlt
        have HX0 : Hid (w.cell? ⟨b, o + i, none⟩ = some (.int .i64 (P i))) := x0
        have hS0 : BS w b (o + i) (P i) wr.drew := ⟨later HE.out.drew x0, HE.out.drew⟩
        clear x0
        go_wp2_with fail
        refine wp_region_noPanic ?_
        refine wp_region_until (X := 14) (S := BS w b (o + i) (P i)) (by kernel_rfl) ?_
        refine until_take (i := 0) (v := ?vb0) rfl (by kernel_rfl) (by kernel_rfl) (by kernel_rfl) (by kernel_rfl) (by kernel_rfl) (fun _ _ _ h => h) rfl ?hyb0 hS0 ?restb0
        case hyb0 => (intro w hSw; obtain ⟨x0, _⟩ := hSw; go_simp; try with_reducible rfl)
        try simp only [Act.put, List.setIfInBounds_toArray, List.set_cons_zero, List.set_cons_succ]
        refine until_take (i := 1) (v := ?vb1) rfl (by kernel_rfl) (by kernel_rfl) (by kernel_rfl) (by kernel_rfl) (by kernel_rfl) (fun _ _ _ h => h) rfl ?hyb1 hS0 ?restb1
        case hyb1 => (intro w hSw; obtain ⟨x0, _⟩ := hSw; go_simp; try with_reducible rfl)
        try simp only [Act.put, List.setIfInBounds_toArray, List.set_cons_zero, List.set_cons_succ]
        refine until_take (i := 2) (v := ?vb2) rfl (by kernel_rfl) (by kernel_rfl) (by kernel_rfl) (by kernel_rfl) (by kernel_rfl) (fun _ _ _ h => h) rfl ?hyb2 hS0 ?restb2
        case hyb2 => (intro w hSw; obtain ⟨x0, _⟩ := hSw; go_simp; try with_reducible rfl)
        try simp only [Act.put, List.setIfInBounds_toArray, List.set_cons_zero, List.set_cons_succ]
        refine until_take (i := 3) (v := ?vb3) rfl (by kernel_rfl) (by kernel_rfl) (by kernel_rfl) (by kernel_rfl) (by kernel_rfl) (fun _ _ _ h => h) rfl ?hyb3 hS0 ?restb3
        case hyb3 => (intro w hSw; obtain ⟨x0, _⟩ := hSw; go_simp; try with_reducible rfl)
        try simp only [Act.put, List.setIfInBounds_toArray, List.set_cons_zero, List.set_cons_succ]
        refine until_take (i := 4) (v := ?vb4) rfl (by kernel_rfl) (by kernel_rfl) (by kernel_rfl) (by kernel_rfl) (by kernel_rfl) (fun _ _ _ h => h) rfl ?hyb4 hS0 ?restb4
        case hyb4 => (intro w hSw; obtain ⟨x0, _⟩ := hSw; go_simp; try with_reducible rfl)
        try simp only [Act.put, List.setIfInBounds_toArray, List.set_cons_zero, List.set_cons_succ]
        refine until_take (i := 5) (v := ?vb5) rfl (by kernel_rfl) (by kernel_rfl) (by kernel_rfl) (by kernel_rfl) (by kernel_rfl) (fun _ _ _ h => h) rfl ?hyb5 hS0 ?restb5
        case hyb5 => (intro w hSw; obtain ⟨x0, _⟩ := hSw; go_simp; try with_reducible rfl)
        try simp only [Act.put, List.setIfInBounds_toArray, List.set_cons_zero, List.set_cons_succ]
        refine until_take (i := 6) (v := ?vb6) rfl (by kernel_rfl) (by kernel_rfl) (by kernel_rfl) (by kernel_rfl) (by kernel_rfl) (fun _ _ _ h => h) rfl ?hyb6 hS0 ?restb6
        case hyb6 => (intro w hSw; obtain ⟨x0, _⟩ := hSw; go_simp; try with_reducible rfl)
        try simp only [Act.put, List.setIfInBounds_toArray, List.set_cons_zero, List.set_cons_succ]
        refine until_take (i := 7) (v := ?vb7) rfl (by kernel_rfl) (by kernel_rfl) (by kernel_rfl) (by kernel_rfl) (by kernel_rfl) (fun _ _ _ h => h) rfl ?hyb7 hS0 ?restb7
        case hyb7 => (intro w hSw; obtain ⟨x0, _⟩ := hSw; go_simp; try with_reducible rfl)
        try simp only [Act.put, List.setIfInBounds_toArray, List.set_cons_zero, List.set_cons_succ]
        refine until_take (i := 8) (v := ?vb8) rfl (by kernel_rfl) (by kernel_rfl) (by kernel_rfl) (by kernel_rfl) (by kernel_rfl) (fun _ _ _ h => h) rfl ?hyb8 hS0 ?restb8
        case hyb8 => (intro w hSw; obtain ⟨x0, _⟩ := hSw; go_simp; try with_reducible rfl)
        try simp only [Act.put, List.setIfInBounds_toArray, List.set_cons_zero, List.set_cons_succ]
        refine until_take (i := 9) (v := ?vb9) rfl (by kernel_rfl) (by kernel_rfl) (by kernel_rfl) (by kernel_rfl) (by kernel_rfl) (fun _ _ _ h => h) rfl ?hyb9 hS0 ?restb9
        case hyb9 => (intro w hSw; obtain ⟨x0, _⟩ := hSw; go_simp; try with_reducible rfl)
        try simp only [Act.put, List.setIfInBounds_toArray, List.set_cons_zero, List.set_cons_succ]
        refine until_one (i := 10) (by kernel_rfl) (by kernel_rfl) rfl rfl (fun K hK => ?_)
        go_simp
        refine (HEv.out i hlt _ hS0.2).mono ?_
        rintro e w3 ⟨rfl, HX3⟩
        have hS3 := hS0.ext HX3
        go_simp
        refine hK.out _ _ hS3 ?_
        clear hK K
        try simp only [Act.put, List.setIfInBounds_toArray, List.set_cons_zero, List.set_cons_succ]
        have HO3 : Hid (w3.ownsRow w.heap.size 47 5 u5 i (shs P X i)) := own_ext HOr.out ((Ext.refl _).drew.trans HX3)
        clear HX3
        refine until_one (i := 11) (by kernel_rfl) (by kernel_rfl) rfl rfl (fun K hK => ?_)
        go_simp
        refine hK.out _ _ hS3 ?_
        clear hK K
        try simp only [Act.put, List.setIfInBounds_toArray, List.set_cons_zero, List.set_cons_succ]
        refine until_one (i := 12) (by kernel_rfl) (by kernel_rfl) rfl rfl (fun K hK => ?_)
        go_simp
        have hS5 := hS3.ext ((Ext.refl _).alloc (.cells #[.int .i64 (P i), .int .u64 (qw (X i) 0), .int .u64 (qw (X i) 1), .int .u64 (qw (X i) 2), .int .u64 (qw (X i) 3)] 47))
        refine hK.out _ _ hS5 ?_
        clear hK K
        try simp only [Act.put, List.setIfInBounds_toArray, List.set_cons_zero, List.set_cons_succ]
        refine until_one (i := 13) (by kernel_rfl) (by kernel_rfl) rfl rfl (fun K hK => ?_)
        refine wp_append_lies _ _ _ 29 rfl w.heap.size 47 i0 (.agg #[.int .i64 0, .int .u64 0, .int .u64 0, .int .u64 0, .int .u64 0]) 5 40 Tryd.underlying29 hi0 hz0 hz1 hz2 rfl (by decide) u5 i (shs P X i) rfl (HO3.out.alloc _) ⟨w3.heap.size, 0, none⟩ 1 1 (shc (P i) (X i)) rfl rfl (news5 w3) (shc_one _ _) (by decide) (by unfold maxLen; omega) (by omega) hS5.2.size _ rfl ?_
        intro gg cp w5 hown hgrow _ _
        have HE5 : Hid (Ext w w5) := Ext.grown hS5.2 (HO3.out.alloc _) (Nat.le_refl _) hgrow
        have hS6 : BS w b (o + i) (P i) w5 := ⟨later HE5.out HX0.out, HE5.out⟩
        have HO5 : Hid (w5.ownsRow w.heap.size 47 5 (.slice (some ⟨gg, 0, none⟩) (i + 1) cp) (i + 1) (shs P X (i + 1))) := hown
        refine hK.out _ _ hS6 ?_
        clear hK K hown hgrow HO3
        try simp only [Act.put, List.setIfInBounds_toArray, List.set_cons_zero, List.set_cons_succ]
        refine until_last (by kernel_rfl) (by kernel_rfl) rfl rfl (fun K hK => ?_)
        clear hS0 hS3 hS5 hS6
        go_simp
        refine hK.out _ _ (NoPanic.normal ?_)
        clear hK K
        try simp only [Act.put, List.setIfInBounds_toArray, List.set_cons_zero, List.set_cons_succ]
        go_wp2
        go_roundw
        case rel => exact ⟨i + 1, hlt, by push_cast; rfl, HO5, HE5⟩
        case measure => simp [intOf]; omega
      · obtain rfl : i = m := by omega
        clear hi hlt HEv
        go_wp2_with fail
        refine (sjoin_any _ i P (fun i j => qw (X i) j) HP.out (by omega) (fun k _ => (qw_mod (X k)).1) _ (HG.out.ext HE.out) (Lies.own HOr.out (shs_at P X i))).mono ?_
        rintro e w2 ⟨HX2, hj⟩
        obtain ⟨hok, r0, r1, r2, r3, rfl, HQ⟩ := hj.resolve_right (fun h => h.1 HOk.out)
        have HQ2 : Hid (QMod (val (f 0 0) (f 0 1) (f 0 2) (f 0 3)) r0 r1 r2 r3) := HBm.out _ _ _ _ HQ.out
        clear hok hj HQ HBm HOr
        have Rk := Row.new w2 r0 r1 r2 r3
        have HE3 : Hid (Ext w (w2.alloc (.cells #[.int .u64 r0, .int .u64 r1, .int .u64 r2, .int .u64 r3] 26))) := (HE.out.trans HX2).alloc _
        clear HX2 HE
        go_wp2_with fail
        generalize w2.alloc (.cells #[.int .u64 r0, .int .u64 r1, .int .u64 r2, .int .u64 r3] 26) = W0 at *
        generalize w2.heap.size = bk at *
        obtain ⟨b, o, rfl, hb, x0, x1, x2, x3⟩ := (HC.out.ext HE3.out).num (i := 0) (by omega)
        rw [show o + 0 * 4 = o from by omega] at x0 x1 x2 x3
        have Rc : W0.cell? ⟨b, o, none⟩ = some (.int .u64 (f 0 0)) ∧ W0.cell? ⟨b, o + 1, none⟩ = some (.int .u64 (f 0 1)) ∧ W0.cell? ⟨b, o + 2, none⟩ = some (.int .u64 (f 0 2)) ∧ W0.cell? ⟨b, o + 3, none⟩ = some (.int .u64 (f 0 3)) := ⟨x0, x1, x2, x3⟩
        have hnp : 0 < n := by omega
        have hnq : ¬ n = 0 := by omega
        have h4 : eq4 r0 r1 r2 r3 r0 r1 r2 r3 = true := by simp [eq4]
        have HMd : Hid (∀ W, Calls Tryd.prog 20 #[.agg #[.int .u64 (f 0 0), .int .u64 (f 0 1), .int .u64 (f 0 2), .int .u64 (f 0 3)]] W fun e w' => e = .returned (.agg #[.int .u64 r0, .int .u64 r1, .int .u64 r2, .int .u64 r3]) ∧ Ext W w') := fun W => by
          refine (refSMod_any _ _ _ _ (HLm.out 0 (by omega)) W).mono ?_
          rintro e w' ⟨s0, s1, s2, s3, rfl, HQ, HX⟩
          obtain ⟨rfl, rfl, rfl, rfl⟩ := HQ.out.one HQ2.out rfl
          exact ⟨rfl, HX⟩
        have G0 : Gl W0 := HG.out.ext HE3.out
        clear x0 x1 x2 x3 HQ2
        go_region_held3 (fun wx : World => Ext W0 wx ∧ wx.cell? ⟨bk, 0, none⟩ = some (.int .u64 r0) ∧ wx.cell? ⟨bk, 1, none⟩ = some (.int .u64 r1) ∧ wx.cell? ⟨bk, 2, none⟩ = some (.int .u64 r2) ∧ wx.cell? ⟨bk, 3, none⟩ = some (.int .u64 r3) ∧ wx.cell? ⟨b, o, none⟩ = some (.int .u64 (f 0 0)) ∧ wx.cell? ⟨b, o + 1, none⟩ = some (.int .u64 (f 0 1)) ∧ wx.cell? ⟨b, o + 2, none⟩ = some (.int .u64 (f 0 2)) ∧ wx.cell? ⟨b, o + 3, none⟩ = some (.int .u64 (f 0 3))) (first | exact keepB (Ext.drew (Ext.refl _)) Rk Rc | exact keepB (by assumption) Rk Rc) (first | (go_at_call 20; (with_reducible refine (HMd.out _).mono ?_); rintro e wy ⟨rfl, HX⟩; have hEy : Ext W0 wy := (by refine Ext.trans ?_ HX; simp only [*])) | (go_at_call 8; (with_reducible refine (awake_any _ (G0.ext (by simp only [*]))).mono ?_); rintro e wy ⟨rfl, HX⟩; have hEy : Ext W0 wy := (by refine Ext.trans ?_ HX; simp only [*])))
        all_goals
          have hE : Ext w wy := HE3.out.trans hEy
          clear hEy
          go_wp2
          go_ret
          exact ⟨rfl, hE⟩
end Go.Proofs.YtnaiccfdbapdpaaDoor

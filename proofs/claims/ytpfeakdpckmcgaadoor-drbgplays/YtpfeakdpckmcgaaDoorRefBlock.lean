/-
  sandglassref07.block, called: eight words behind a block; nothing old is turned.
-/
import Derived.Test.YtpfeakdpckmcgaaDoorBlockMath
import Derived.Test.YtpfeakdpckmcgaaDoorRefKs
namespace Go.Proofs.YtpfeakdpckmcgaaDoor
open Go.RowKit
set_option maxRecDepth 100000 in
set_option maxHeartbeats 2000000 in
theorem block_any (V0 : List Nat) (b : Nat → Nat) (vh vk vs : Value) (hV : V0.length = 8) (hh : ∀ x ∈ V0, x < 4294967296) (hb : ∀ i, b i < 256) (w : World) (sh : SlIs w vh (lst .u32 (fun i => V0.getD i 0) 8)) (sk : SlIs w vk (lst .u32 (fun i => KK.getD i 0) 64)) (ss : SlIs w vs (lst .u8 b 64)) :
    Calls Tryd.prog 46 #[vh, vk, vs] w fun e w' => ∃ v, e = .returned v ∧ SlIs w' v (lst .u32 (fun i => (blockF KK (fun t => word4 b (4 * t)) V0).getD i 0) 8) ∧ Ext w w' := by
  obtain ⟨h, Hh1⟩ : ∃ h : Nat → Nat, Hid (h = fun i => V0.getD i 0) := ⟨_, rfl⟩
  obtain ⟨K, HK1⟩ : ∃ K : Nat → Nat, Hid (K = fun i => KK.getD i 0) := ⟨_, rfl⟩
  rw [← Hh1.out] at sh
  rw [← HK1.out] at sk
  obtain ⟨bh, oh, ch, rfl, hbh, Hh0⟩ := sh.form (by decide)
  obtain ⟨bk, ok, ck, rfl, hbk, Hk0⟩ := sk.form (by decide)
  obtain ⟨bs, os, cs, rfl, hbs, Hs0⟩ := ss.form (by decide)
  have Hh : Hid (∀ j, j < 8 → w.cell? ⟨bh, oh + j, none⟩ = some (.int .u32 (h j : Int))) := Hh0
  have Hk : Hid (∀ j, j < 64 → w.cell? ⟨bk, ok + j, none⟩ = some (.int .u32 (K j : Int))) := Hk0
  have Hs : Hid (∀ j, j < 64 → w.cell? ⟨bs, os + j, none⟩ = some (.int .u8 (b j : Int))) := Hs0
  have HL : Hid ((V0.length = 8) ∧ (∀ x ∈ V0, x < 4294967296) ∧ ∀ i, b i < 256) := ⟨hV, hh, hb⟩
  clear Hh0 Hk0 Hs0 sh sk ss hV hh hb
  have HR0 : Hid (RowH (w.alloc (.cells (Array.replicate 64 (.int .u32 0)) 82)) w.heap.size 82 .u32 64 (fun _ => 0)) := RowH.new w .u32 64 82
  have HE0 : Hid (Ext w (w.alloc (.cells (Array.replicate 64 (.int .u32 0)) 82))) := (Ext.refl _).alloc _
  have HNb : Hid (bh < w.heap.size ∧ bk < w.heap.size ∧ bs < w.heap.size) := ⟨hbh, hbk, hbs⟩
  obtain ⟨Bf, HBf⟩ : ∃ Bf : Nat → Nat, Hid (Bf = fun t => word4 b (4 * t)) := ⟨_, rfl⟩
  have HN : SizeLe w w.heap.size := Nat.le_refl _
  go_enter Tryd.func46, Tryd.ntmps46
  go_wp2
  go_loopw [8] (fun u8 wr => ∃ (t : Nat), t ≤ 16 ∧ u8 = .int .i64 t ∧ RowH wr w.heap.size 82 .u32 64 (wf Bf t) ∧ Hid (Ext w wr)) (fun u8 _ => 16 - (intOf u8).toNat)
  case atStart => exact ⟨0, by omega, rfl, by rw [wf_zero]; exact HR0.out, HE0⟩
  case round =>
    obtain ⟨t, ht, rfl, HR, HE⟩ := hrel
    by_cases hlt : t < 16
    · have ht1 : (t : Int) < 16 := by omega
      have ht0 : (0 : Int) ≤ (t : Int) := by omega
      have ht64 : (t : Int) < 64 := by omega
      obtain ⟨p, hp⟩ : ∃ p, 4 * t = p := ⟨_, rfl⟩
      have hm : IntKind.i64.wrap (4 * (t : Int)) = (p : Int) := by rw [IntKind.wrap_i64]; omega
      have HP : Hid (4 * t = p) := hp
      have hp63 : p < 61 := by omega
      have i0 : (0 : Int) ≤ (p : Int) := by omega
      have j0 : (p : Int) < 64 := by omega
      have m1 : IntKind.i64.wrap ((p : Int) + 1) = (p : Int) + 1 := by rw [IntKind.wrap_i64]; omega
      have i1 : (0 : Int) ≤ (p : Int) + 1 := by omega
      have j1 : (p : Int) + 1 < 64 := by omega
      have k1 : ((p : Int) + 1).toNat = p + 1 := by omega
      have m2 : IntKind.i64.wrap ((p : Int) + 2) = (p : Int) + 2 := by rw [IntKind.wrap_i64]; omega
      have i2 : (0 : Int) ≤ (p : Int) + 2 := by omega
      have j2 : (p : Int) + 2 < 64 := by omega
      have k2 : ((p : Int) + 2).toNat = p + 2 := by omega
      have m3 : IntKind.i64.wrap ((p : Int) + 3) = (p : Int) + 3 := by rw [IntKind.wrap_i64]; omega
      have i3 : (0 : Int) ≤ (p : Int) + 3 := by omega
      have j3 : (p : Int) + 3 < 64 := by omega
      have k3 : ((p : Int) + 3).toNat = p + 3 := by omega
      have c0 := later HE.out (Hs.out p (by omega))
      have c1 := later HE.out (Hs.out (p + 1) (by omega))
      have c2 := later HE.out (Hs.out (p + 2) (by omega))
      have c3 := later HE.out (Hs.out (p + 3) (by omega))
      obtain ⟨s0, s1, s2, q1, q2, q3, w0, w1, w2, o1, o2, o3, HQ0⟩ := word_letters (b p) (b (p + 1)) (b (p + 2)) (b (p + 3)) (HL.out.2.2 _) (HL.out.2.2 _) (HL.out.2.2 _) (HL.out.2.2 _)
      have HQ : Hid (q3 = Bf t) := by
        show _ = _
        rw [HQ0, HBf.out]
        unfold word4
        rw [← HP.out]
      have v0 : IntKind.u32.wrap (b p : Int) = (b p : Int) := by have := HL.out.2.2 p; rw [IntKind.wrap_u32']; omega
      have v1 : IntKind.u32.wrap (b (p + 1) : Int) = (b (p + 1) : Int) := by have := HL.out.2.2 (p + 1); rw [IntKind.wrap_u32']; omega
      have v2 : IntKind.u32.wrap (b (p + 2) : Int) = (b (p + 2) : Int) := by have := HL.out.2.2 (p + 2); rw [IntKind.wrap_u32']; omega
      have v3 : IntKind.u32.wrap (b (p + 3) : Int) = (b (p + 3) : Int) := by have := HL.out.2.2 (p + 3); rw [IntKind.wrap_u32']; omega
      obtain ⟨gc, gf⟩ := HR.tab.2 t (by omega)
      have HR2 : Hid (RowH (wr.setCell ⟨w.heap.size, t, none⟩ (.int .u32 (q3 : Int))) w.heap.size 82 .u32 64 (wf Bf (t + 1))) := by
        have h := HR.set t q3
        rw [HQ.out] at h ⊢
        rwa [show put (wf Bf t) t (Bf t) = wf Bf (t + 1) from by rw [← wf_put, if_pos hlt]] at h
      have HE2 : Hid (Ext w (wr.setCell ⟨w.heap.size, t, none⟩ (.int .u32 (q3 : Int)))) := Ext.st HN HE.out
      clear HQ0 hp hp63 HR
      generalize b p = a0 at *
      generalize b (p + 1) = a1 at *
      generalize b (p + 2) = a2 at *
      generalize b (p + 3) = a3 at *
      go_wp2_with fail
      go_region
      go_wp2
      go_roundw
      case rel => exact ⟨t + 1, hlt, by go_num, HR2.out.ext (Ext.drew (Ext.refl _)), HE2.out.drew⟩
      case measure => simp [intOf]; omega
    · have HT : Hid (t = 16) := (by omega : t = 16)
      have hnl : ¬ (t : Int) < 16 := by omega
      rw [HT.out] at HR
      have HBl : Hid (∀ i, Bf i < 4294967296) := fun i => by
        rw [HBf.out]
        have h0 := HL.out.2.2 (4 * i)
        have h1 := HL.out.2.2 (4 * i + 1)
        have h2 := HL.out.2.2 (4 * i + 2)
        have h3 := HL.out.2.2 (4 * i + 3)
        show word4 b (4 * i) < _
        unfold word4
        omega
      go_wp2
      go_loopw [9] (fun u9 wr => ∃ (t : Nat), 16 ≤ t ∧ t ≤ 64 ∧ u9 = .int .i64 t ∧ RowH wr w.heap.size 82 .u32 64 (wf Bf t) ∧ Hid (Ext w wr)) (fun u9 _ => 64 - (intOf u9).toNat)
      case atStart => exact ⟨16, by omega, by omega, rfl, HR, HE⟩
      case round =>
        clear HR HE
        obtain ⟨t, ht16, ht, rfl, HR, HE⟩ := hrel
        by_cases hlt : t < 64
        · have ht1 : (t : Int) < 64 := by omega
          have ht0 : (0 : Int) ≤ (t : Int) := by omega
          obtain ⟨d15, e15⟩ : ∃ d, t - 15 = d := ⟨_, rfl⟩
          obtain ⟨d2, e2⟩ : ∃ d, t - 2 = d := ⟨_, rfl⟩
          obtain ⟨d7, e7⟩ : ∃ d, t - 7 = d := ⟨_, rfl⟩
          obtain ⟨d16, e16⟩ : ∃ d, t - 16 = d := ⟨_, rfl⟩
          have m15 : IntKind.i64.wrap ((t : Int) - 15) = (d15 : Int) := by rw [IntKind.wrap_i64]; omega
          have m2 : IntKind.i64.wrap ((t : Int) - 2) = (d2 : Int) := by rw [IntKind.wrap_i64]; omega
          have m7 : IntKind.i64.wrap ((t : Int) - 7) = (d7 : Int) := by rw [IntKind.wrap_i64]; omega
          have m16 : IntKind.i64.wrap ((t : Int) - 16) = (d16 : Int) := by rw [IntKind.wrap_i64]; omega
          have i15 : (d15 : Int) < 64 := by omega
          have i2 : (d2 : Int) < 64 := by omega
          have i7 : (d7 : Int) < 64 := by omega
          have i16 : (d16 : Int) < 64 := by omega
          have j15 : (0 : Int) ≤ (d15 : Int) := by omega
          have j2 : (0 : Int) ≤ (d2 : Int) := by omega
          have j7 : (0 : Int) ≤ (d7 : Int) := by omega
          have j16 : (0 : Int) ≤ (d16 : Int) := by omega
          have c15 := (HR.tab.2 d15 (by omega)).1
          have c2 := (HR.tab.2 d2 (by omega)).1
          have c7 := (HR.tab.2 d7 (by omega)).1
          have c16 := (HR.tab.2 d16 (by omega)).1
          obtain ⟨gc, gf⟩ := HR.tab.2 t (by omega)
          obtain ⟨r17, r19, s10, z1, z2, r7, r18, s3, z3, z4, n1, n2, n3, T17, T19, T7, T18, a10, a3, x1, x2, x3, x4, y1, y2, y3, HN3⟩ := next_letters (wl Bf t) t (wf_lt HBl.out t (t - 15)) (wf_lt HBl.out t (t - 2))
          have HR2 : Hid (RowH (wr.setCell ⟨w.heap.size, t, none⟩ (.int .u32 (n3 : Int))) w.heap.size 82 .u32 64 (wf Bf (t + 1))) := by
            have h := HR.set t n3
            rw [HN3] at h ⊢
            rwa [show put (wf Bf t) t (wnext (wl Bf t) t) = wf Bf (t + 1) from by rw [← wf_put, if_neg (by omega)]] at h
          have HE2 : Hid (Ext w (wr.setCell ⟨w.heap.size, t, none⟩ (.int .u32 (n3 : Int)))) := Ext.st HN HE.out
          have T17 : Hid (TurnC (wf Bf t d2) r17 17) := by rw [← e2]; exact T17
          have T19 : Hid (TurnC (wf Bf t d2) r19 19) := by rw [← e2]; exact T19
          have T7 : Hid (TurnC (wf Bf t d15) r7 7) := by rw [← e15]; exact T7
          have T18 : Hid (TurnC (wf Bf t d15) r18 18) := by rw [← e15]; exact T18
          have a10 : ((wf Bf t d2 : Nat) : Int) / 1024 = (s10 : Int) := by rw [← e2]; exact a10
          have a3 : ((wf Bf t d15 : Nat) : Int) / 8 = (s3 : Int) := by rw [← e15]; exact a3
          have y1 : IntKind.u32.wrap ((z2 : Int) + ((wf Bf t d7 : Nat) : Int)) = (n1 : Int) := by rw [← e7]; exact y1
          have y3 : IntKind.u32.wrap ((n2 : Int) + ((wf Bf t d16 : Nat) : Int)) = (n3 : Int) := by rw [← e16]; exact y3
          have ne7 : d7 ≠ t := by omega
          have ne16 : d16 ≠ t := by omega
          have en7 : t ≠ d7 := by omega
          have en16 : t ≠ d16 := by omega
          clear HN3 HR e15 e2 e7 e16
          generalize wf Bf t d2 = Y at *
          generalize wf Bf t d15 = X at *
          generalize wf Bf t d7 = A7 at *
          generalize wf Bf t d16 = A16 at *
          go_wp2_with fail
          go_region
          all_goals
            go_wp2_with fail
            go_region_held3 (fun wx : World => wx.cell? ⟨w.heap.size, d7, none⟩ = some (.int .u32 (A7 : Int)) ∧ wx.cell? ⟨w.heap.size, d16, none⟩ = some (.int .u32 (A16 : Int))) (first | exact ⟨keepW ne7 c7, keepW ne16 c16⟩ | go_keep) (first | (go_at_call 52; first | (with_reducible refine (TurnC.call T17.out _).mono ?_; rintro e _ ⟨rfl, rfl⟩) | (with_reducible refine (TurnC.call T19.out _).mono ?_; rintro e _ ⟨rfl, rfl⟩) | (with_reducible refine (TurnC.call T7.out _).mono ?_; rintro e _ ⟨rfl, rfl⟩) | (with_reducible refine (TurnC.call T18.out _).mono ?_; rintro e _ ⟨rfl, rfl⟩)))
          go_wp2
          go_roundw
          case rel => exact ⟨t + 1, by omega, hlt, by go_num, (HR2.out.ext (Ext.drew (Ext.refl _))).ext (Ext.drew (Ext.refl _)), HE2.out.drew.drew⟩
          case measure => simp [intOf]; omega
        · have HT2 : Hid (t = 64) := (by omega : t = 64)
          have hnl2 : ¬ (t : Int) < 64 := by omega
          rw [HT2.out] at HR
          obtain ⟨i0, hi, hz0, hz1, hz2⟩ := info_parts Tryd.info80
          have HN8 : Hid (∀ j u, (lst .u32 h 8)[j]? = some u → wr.cell? ((⟨bh, oh, none⟩ : Addr).add j) = some u) := fun j u hu => by
            obtain ⟨hj, rfl⟩ := lst_of hu
            have hadd : (⟨bh, oh, none⟩ : Addr).add j = ⟨bh, oh + j, none⟩ := by unfold Addr.add; split <;> simp_all
            rw [hadd]
            exact later HE.out (Hh.out j hj)
          have HO8 : Hid (∀ u ∈ lst .u32 h 8, u.oneCell' = true) := fun u hu => by
            simp [lst] at hu
            obtain ⟨i, _, rfl⟩ := hu
            rfl
          go_wp2_with (first | (at_builtin; refine wpList_append_lies _ rfl _ _ 69 rfl w.heap.size 80 i0 (.int .u32 0) 1 4 Tryd.underlying69 hi hz0 hz1 hz2 rfl (by decide) (.slice none 0 0) 0 [] rfl (World.ownsRow_nil _ _ _ _) ⟨bh, oh, none⟩ 8 _ (lst .u32 h 8) rfl (by rw [lst_len]) HN8.out HO8.out (by decide) (by decide) (by decide) HE.out.size _ rfl ?_))
          intro g3 cap3 w3 hown3 hgrow3 hat3 hlt3
          have HX3 : Ext wr w3 := ext_grown (Ext.refl _) hgrow3 (fun k hk => by cases hk)
          have HR3 := HR.ext HX3
          have HE3 : Hid (Ext w w3) := HE.out.trans HX3
          have HO3 : Oct w3 g3 V0 := by
            have ht := own_tab hown3
            refine ⟨ht.1, fun j hj => ?_⟩
            rw [(ht.2 j hj).1, Hh1.out]
          clear hown3 hgrow3 hat3 hlt3 HX3 HR HE HN8 HO8
          go_wp2
          go_loopw [12, 13] (fun u12 u13 wr => ∃ (t gv cv : Nat) (V : List Nat), t ≤ 64 ∧ u13 = .int .i64 t ∧ u12 = .slice (some ⟨gv, 0, none⟩) 8 cv ∧ Oct wr gv V ∧ RowH wr w.heap.size 82 .u32 64 (wf Bf 64) ∧ Hid (V = rd KK (wl Bf 64) V0 t) ∧ Hid (Ext w wr)) (fun _ u13 _ => 64 - (intOf u13).toNat)
          case atStart => exact ⟨0, g3, cap3, V0, by omega, rfl, rfl, HO3, HR3, rfl, HE3⟩
          case round =>
            clear HO3 HR3 HE3
            obtain ⟨t, gv, cv, V, ht, rfl, rfl, HO, HR, HV, HE⟩ := hrel
            by_cases hlt : t < 64
            · have ht1 : (t : Int) < 64 := by omega
              have ht0 : (0 : Int) ≤ (t : Int) := by omega
              have HVl : Hid (V.length = 8 ∧ ∀ x ∈ V, x < 4294967296) := by rw [HV.out]; exact rd_len HL.out.1 HL.out.2.1 t
              obtain ⟨va, vb, vc, vd, ve, vf, vg, vx, HV8⟩ := list8 HVl.out.1
              subst HV8
              have c0 : wr.cell? ⟨gv, 0, none⟩ = some (.int .u32 (va : Int)) := HO.2 0 (by decide)
              have c1 : wr.cell? ⟨gv, 1, none⟩ = some (.int .u32 (vb : Int)) := HO.2 1 (by decide)
              have c2 : wr.cell? ⟨gv, 2, none⟩ = some (.int .u32 (vc : Int)) := HO.2 2 (by decide)
              have c3 : wr.cell? ⟨gv, 3, none⟩ = some (.int .u32 (vd : Int)) := HO.2 3 (by decide)
              have c4 : wr.cell? ⟨gv, 4, none⟩ = some (.int .u32 (ve : Int)) := HO.2 4 (by decide)
              have c5 : wr.cell? ⟨gv, 5, none⟩ = some (.int .u32 (vf : Int)) := HO.2 5 (by decide)
              have c6 : wr.cell? ⟨gv, 6, none⟩ = some (.int .u32 (vg : Int)) := HO.2 6 (by decide)
              have c7 : wr.cell? ⟨gv, 7, none⟩ = some (.int .u32 (vx : Int)) := HO.2 7 (by decide)
              have ck : wr.cell? ⟨bk, ok + t, none⟩ = some (.int .u32 (K t : Int)) := later HE.out (Hk.out t hlt)
              have cw := (HR.tab.2 t hlt).1
              obtain ⟨r6, r11, r25, y1, y2, p1, ne, p2, p3, o1, o2, o3, o4, r2, r13, r22, t1, t2, q1, q2, q3, q4, q5, tw, n0, n4, ⟨T6, T11, T25, A1, A2⟩, ⟨A3, A4, A5, A6⟩, ⟨A7, A8, A9, A10⟩, ⟨T2, T13, T22, B1, B2⟩, ⟨B3, B4, B5, B6, B7⟩, ⟨B8, B9, B10⟩, HN0⟩ := round_letters va vb vc vd ve vf vg vx (K t) (wf Bf 64 t) (HVl.out.2 _ (by simp)) (HVl.out.2 _ (by simp)) (HVl.out.2 _ (by simp)) (HVl.out.2 _ (by simp)) (HVl.out.2 _ (by simp)) (HVl.out.2 _ (by simp))
              have T6 : Hid (TurnC ve r6 6) := T6
              have T11 : Hid (TurnC ve r11 11) := T11
              have T25 : Hid (TurnC ve r25 25) := T25
              have T2 : Hid (TurnC va r2 2) := T2
              have T13 : Hid (TurnC va r13 13) := T13
              have T22 : Hid (TurnC va r22 22) := T22
              have HV2 : Hid ([n0, va, vb, vc, n4, ve, vf, vg] = rd KK (wl Bf 64) V0 (t + 1)) := by
                show _ = _
                rw [HN0]
                show _ = rstep (rd KK (wl Bf 64) V0 t) (KK.getD t 0) ((wl Bf 64).getD t 0)
                rw [← HV.out, HK1.out]
                rfl
              clear HN0 HVl
              generalize K t = kv at *
              generalize wf Bf 64 t = wv at *
              go_wp2_with fail
              go_region
              go_wp2_with fail
              go_region_held3 (fun wx : World => wx.cell? ⟨gv, 7, none⟩ = some (.int .u32 (vx : Int)) ∧ wx.cell? ⟨gv, 5, none⟩ = some (.int .u32 (vf : Int)) ∧ wx.cell? ⟨gv, 6, none⟩ = some (.int .u32 (vg : Int)) ∧ wx.cell? ⟨bk, ok + t, none⟩ = some (.int .u32 (kv : Int)) ∧ wx.cell? ⟨w.heap.size, t, none⟩ = some (.int .u32 (wv : Int))) (first | exact ⟨c7, c5, c6, ck, cw⟩ | go_keep) (first | (go_at_call 52; first | (with_reducible refine (TurnC.call T6.out _).mono ?_; rintro e _ ⟨rfl, rfl⟩) | (with_reducible refine (TurnC.call T11.out _).mono ?_; rintro e _ ⟨rfl, rfl⟩) | (with_reducible refine (TurnC.call T25.out _).mono ?_; rintro e _ ⟨rfl, rfl⟩)))
              go_wp2_with fail
              go_region_held3 (fun wx : World => wx.cell? ⟨gv, 1, none⟩ = some (.int .u32 (vb : Int)) ∧ wx.cell? ⟨gv, 2, none⟩ = some (.int .u32 (vc : Int))) (first | exact ⟨c1, c2⟩ | go_keep) (first | (go_at_call 52; first | (with_reducible refine (TurnC.call T2.out _).mono ?_; rintro e _ ⟨rfl, rfl⟩) | (with_reducible refine (TurnC.call T13.out _).mono ?_; rintro e _ ⟨rfl, rfl⟩) | (with_reducible refine (TurnC.call T22.out _).mono ?_; rintro e _ ⟨rfl, rfl⟩)))
              go_wp2_with fail
              go_region_held3 (fun wx : World => wx.cell? ⟨gv, 0, none⟩ = some (.int .u32 (va : Int)) ∧ wx.cell? ⟨gv, 1, none⟩ = some (.int .u32 (vb : Int)) ∧ wx.cell? ⟨gv, 2, none⟩ = some (.int .u32 (vc : Int)) ∧ wx.cell? ⟨gv, 3, none⟩ = some (.int .u32 (vd : Int)) ∧ wx.cell? ⟨gv, 4, none⟩ = some (.int .u32 (ve : Int)) ∧ wx.cell? ⟨gv, 5, none⟩ = some (.int .u32 (vf : Int)) ∧ wx.cell? ⟨gv, 6, none⟩ = some (.int .u32 (vg : Int))) (first | exact ⟨c0, c1, c2, c3, c4, c5, c6⟩ | go_keep) (fail)
              go_wp2
              go_roundw
              case rel => exact ⟨t + 1, _, _, [n0, va, vb, vc, n4, ve, vf, vg], hlt, by go_num, rfl, (Oct.new wr 80 n0 va vb vc n4 ve vf vg).ext ((((Ext.refl _).drew).drew).drew).drew, HR.ext ((((((Ext.refl _).alloc _).drew).drew).drew).drew), HV2, ((((HE.out.alloc _).drew).drew).drew).drew⟩
              case measure => simp [intOf]; omega
            · have HT3 : Hid (t = 64) := (by omega : t = 64)
              have hnl3 : ¬ (t : Int) < 64 := by omega
              obtain ⟨F, HF⟩ : ∃ F : Nat → Nat, Hid (F = fun i => (blockF KK (fun t => word4 b (4 * t)) V0).getD i 0) := ⟨_, rfl⟩
              have HFi : Hid (∀ i, i < 8 → F i = (h i + V.getD i 0) % 4294967296) := fun i hi => by
                rw [HF.out, Hh1.out]
                show (blockF KK (fun t => word4 b (4 * t)) V0).getD i 0 = _
                rw [block_get _ _ HL.out.1 HL.out.2.1 hi, ← HBf.out, HV.out, HT3.out]
              have Hh3 : Hid (∀ j, j < 8 → wr.cell? ⟨bh, oh + j, none⟩ = some (.int .u32 (h j : Int))) := fun j hj => later HE.out (Hh.out j hj)
              have HOc : Hid (Oct wr gv V) := HO
              clear HR HO HV
              generalize wr = W3 at *
              have HB3 : Hid (w.heap.size ≤ W3.heap.size) := HE.out.size
              go_wp2
              go_loopw [18, 19] (fun u18 u19 wq => ∃ (i : Nat), i ≤ 8 ∧ u19 = .int .i64 i ∧ Hid (wq.ownsRow W3.heap.size 80 1 u18 i (lst .u32 F i)) ∧ Hid (Ext W3 wq)) (fun _ u19 _ => 8 - (intOf u19).toNat)
              case atStart => exact ⟨0, by omega, rfl, World.ownsRow_nil _ _ _ _, Ext.refl _⟩
              case round =>
                obtain ⟨i, hi8, rfl, HW, HX⟩ := hrel
                by_cases hlt : i < 8
                · have hi1 : (i : Int) < 8 := by omega
                  have hi0 : (0 : Int) ≤ (i : Int) := by omega
                  have cH := later HX.out (Hh3.out i hlt)
                  have cV := later HX.out (HOc.out.2 i hlt)
                  have hsum : IntKind.u32.wrap ((h i : Int) + ((V.getD i 0 : Nat) : Int)) = (F i : Int) := by rw [HFi.out i hlt, IntKind.wrap_u32']; omega
                  generalize V.getD i 0 = vv at *
                  generalize h i = hv at *
                  obtain ⟨fv, HFv⟩ : ∃ fv, Hid (F i = fv) := ⟨_, rfl⟩
                  rw [HFv.out] at hsum
                  have HW2 : Hid ((wr.alloc (.cells #[.int .u32 (fv : Int)] 80)).drew.ownsRow W3.heap.size 80 1 u18 i (lst .u32 F i)) := own_ext HW.out (((Ext.refl _).alloc _).drew)
                  have HB4 : Hid (W3.heap.size ≤ (wr.alloc (.cells #[.int .u32 (fv : Int)] 80)).drew.heap.size) := (((HX.out).alloc _).drew).size
                  have HXa : Hid (Ext W3 (wr.alloc (.cells #[.int .u32 (fv : Int)] 80)).drew) := (((HX.out).alloc _).drew)
                  go_wp2_with fail
                  go_region_law (refine step_append_lies _ rfl _ _ 69 rfl W3.heap.size 80 i0 (.int .u32 0) 1 4 Tryd.underlying69 hi hz0 hz1 hz2 rfl (by decide) u18 i _ rfl HW2.out ⟨_, 0, none⟩ 1 1 [.int .u32 (fv : Int)] rfl rfl (news1 _ _) (news_one _) (by decide) (by unfold maxLen; omega) (by omega) HB4.out _ rfl ?_; intro g5 cap5 w5 hown5 hgrow5 hat5 hlt5)
                  all_goals
                    have HW5 : Hid (w5.ownsRow W3.heap.size 80 1 (.slice (some ⟨g5, 0, none⟩) (i + 1) cap5) (i + 1) (lst .u32 F (i + 1))) := by
                      rw [lst_succ, HFv.out]
                      exact hown5
                    have HX5 : Hid (Ext W3 w5) := ext_grown HXa.out hgrow5 (own_at HW2.out)
                    clear hown5 hgrow5 hat5 hlt5 HXa HB4 HW2 HW HX cH cV
                    go_wp2
                    go_roundw
                    case rel => exact ⟨i + 1, hlt, by go_num, HW5, HX5⟩
                    case measure => simp [intOf]; omega
                · have HI8 : Hid (i = 8) := (by omega : i = 8)
                  have hni : ¬ (i : Int) < 8 := by omega
                  go_wp2
                  go_ret
                  refine ⟨_, rfl, ?_, HE.out.trans HX.out⟩
                  have h2 := HW.out
                  rw [HI8.out, HF.out] at h2
                  exact own_read h2
end Go.Proofs.YtpfeakdpckmcgaaDoor

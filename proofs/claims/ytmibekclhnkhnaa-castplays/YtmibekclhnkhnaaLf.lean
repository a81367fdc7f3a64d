/-
  CastPlays, called: true; nothing old is turned.
-/
import Derived.Test.YtmibekclhnkhnaaLd
import Derived.Test.YtmibekclhnkhnaaLe
namespace Go.Proofs.Ytmibekclhnkhnaa
open Go.RowKit
set_option maxRecDepth 100000 in
set_option maxHeartbeats 4000000 in
theorem castPlays_nil (n t f : Int) (v : Value) (M : List Msg) (hc : ¬ hasC n t f) (w : World) (hM : MsIs w v M) :
    Calls Try.prog 4 #[.agg #[.int .i64 n, .int .i64 t, .int .i64 f], v] w fun e w' => e = .returned (.bool true) ∧ Ext w w' := by
  have HN : Hid (∀ W, Calls Try.prog 12 #[.int .i64 n, .int .i64 t, .int .i64 f] W fun e w' => e = .returned (.pointer none) ∧ Ext W w') := fun W => cnew_bad n t f hc W
  have HR : Hid (∀ W, Calls Try.prog 13 #[.int .i64 n, .int .i64 t, .int .i64 f] W fun e w' => e = .returned (.tuple #[rC 0 0 0 (.slice none 0 0) false false ⟨#[]⟩, .bool false]) ∧ Ext W w') := fun W => rnew_bad n t f hc W
  clear hc
  have HL0 : Hid (MsIs w v M) := hM
  obtain ⟨a, cap, rfl, _⟩ := hM
  obtain ⟨L, HLn⟩ : ∃ L, Hid (M.length = L) := ⟨_, rfl⟩
  have HL := HL0
  rw [HLn.out] at HL ⊢
  clear HL0
  have HE0 : Hid (Ext w (w.alloc (.cells #[.int .i64 n, .int .i64 t, .int .i64 f] 26))) := (Ext.refl w).alloc _
  have HBx : Hid (∀ W, Ext (w.alloc (.cells #[.int .i64 n, .int .i64 t, .int .i64 f] 26)) W → W.cell? ⟨w.heap.size, 0, none⟩ = some (.int .i64 n) ∧ W.cell? ⟨w.heap.size, 1, none⟩ = some (.int .i64 t) ∧ W.cell? ⟨w.heap.size, 2, none⟩ = some (.int .i64 f) ∧ w.heap.size < W.heap.size) := box3w w n t f
  have HF : Hid (∀ W, Ext w W → Calls Try.prog 11 #[.slice a L cap] W fun e w' => FewP M W e w') := fun W hW => few_any _ M W (HL.out.ext hW)
  go_enter Try.func4, Try.ntmps4
  go_wp2_with fail
  refine (HF.out _ HE0.out).mono ?_
  rintro e w1 ⟨b, rfl, hb, HX⟩
  have HE1 : Hid (Ext w w1) := HE0.out.trans HX
  obtain ⟨x0, x1, x2, x3⟩ := HBx.out _ HX
  have HW1 : Hid (Ext (w.alloc (.cells #[.int .i64 n, .int .i64 t, .int .i64 f] 26)) w1) := HX
  clear HX HF
  rcases hb with rfl | ⟨rfl, hlen⟩
  · clear x0 x1 x2 x3 HN HR
    go_wp2_with fail
    refine (awake_any _).mono ?_
    rintro e wa ⟨rfl, HX⟩
    have HEa : Hid (Ext w wa) := HE1.out.trans HX
    clear HX
    go_wp2
    go_ret
    exact ⟨rfl, HEa.out⟩
  · clear hlen
    go_wp2_with fail
    refine (HN.out _).mono ?_
    rintro e w2 ⟨rfl, HX⟩
    have HE2 : Hid (Ext w w2) := HE1.out.trans HX
    obtain ⟨y0, y1, y2, y3⟩ := HBx.out _ (HW1.out.trans HX)
    clear HX x0 x1 x2 x3 HN HE1
    go_wp2_with fail
    refine (HR.out _).mono ?_
    rintro e w3 ⟨rfl, HX⟩
    have HE3 : Hid (Ext w w3) := HE2.out.trans HX
    clear HX y0 y1 y2 y3 HR HE2
    go_wp2_with fail
    refine (awake_any _).mono ?_
    rintro e wa ⟨rfl, HX⟩
    have HEa : Hid (Ext w wa) := (HE3.out.alloc _).trans HX
    clear HX
    go_wp2
    go_ret
    exact ⟨rfl, HEa.out⟩
set_option maxRecDepth 100000 in
set_option maxHeartbeats 4000000 in
theorem castPlays_good (N T F : Nat) (v : Value) (M : List Msg) (hc : hasC N T F) (w : World) (hM : MsIs w v M) :
    Calls Try.prog 4 #[.agg #[.int .i64 (N : Int), .int .i64 (T : Int), .int .i64 (F : Int)], v] w fun e w' => e = .returned (.bool true) ∧ Ext w w' := by
  have HN : Hid (∀ W, Ext w W → Calls Try.prog 12 #[.int .i64 (N : Int), .int .i64 (T : Int), .int .i64 (F : Int)] W fun e w' => ∃ a G, e = .returned (.pointer (some a)) ∧ Cs w (.pointer (some a)) N T F st0 G w' ∧ From G W.heap.size ∧ Ext W w') := fun W hW => lnew_any N T F hc w W hW
  have HR : Hid (∀ W, Calls Try.prog 13 #[.int .i64 (N : Int), .int .i64 (T : Int), .int .i64 (F : Int)] W fun e w' => e = .returned (.tuple #[rC N T F (.slice none 0 0) false false ⟨#[]⟩, .bool true]) ∧ Ext W w') := fun W => rnew_good N T F hc W
  clear hc
  have HL0 : Hid (MsIs w v M) := hM
  obtain ⟨a, cap, rfl, _⟩ := hM
  obtain ⟨L, HLn⟩ : ∃ L, Hid (M.length = L) := ⟨_, rfl⟩
  have HL := HL0
  rw [HLn.out] at HL ⊢
  clear HL0
  have HE0 : Hid (Ext w (w.alloc (.cells #[.int .i64 (N : Int), .int .i64 (T : Int), .int .i64 (F : Int)] 26))) := (Ext.refl w).alloc _
  have HBx : Hid (∀ W, Ext (w.alloc (.cells #[.int .i64 (N : Int), .int .i64 (T : Int), .int .i64 (F : Int)] 26)) W → W.cell? ⟨w.heap.size, 0, none⟩ = some (.int .i64 (N : Int)) ∧ W.cell? ⟨w.heap.size, 1, none⟩ = some (.int .i64 (T : Int)) ∧ W.cell? ⟨w.heap.size, 2, none⟩ = some (.int .i64 (F : Int)) ∧ w.heap.size < W.heap.size) := box3w w N T F
  have HF : Hid (∀ W, Ext w W → Calls Try.prog 11 #[.slice a L cap] W fun e w' => FewP M W e w') := fun W hW => few_any _ M W (HL.out.ext hW)
  go_enter Try.func4, Try.ntmps4
  go_wp2_with fail
  refine (HF.out _ HE0.out).mono ?_
  rintro e w1 ⟨b, rfl, hb, HX⟩
  have HE1 : Hid (Ext w w1) := HE0.out.trans HX
  obtain ⟨x0, x1, x2, x3⟩ := HBx.out _ HX
  have HW1 : Hid (Ext (w.alloc (.cells #[.int .i64 (N : Int), .int .i64 (T : Int), .int .i64 (F : Int)] 26)) w1) := HX
  clear HX HF
  rcases hb with rfl | ⟨rfl, hlen⟩
  · clear x0 x1 x2 x3 HN HR
    go_wp2_with fail
    refine (awake_any _).mono ?_
    rintro e wa ⟨rfl, HX⟩
    have HEa : Hid (Ext w wa) := HE1.out.trans HX
    clear HX
    go_wp2
    go_ret
    exact ⟨rfl, HEa.out⟩
  · have hl80 : L ≤ 80 := by rw [← HLn.out]; exact hlen
    clear hlen
    go_wp2_with fail
    refine (HN.out _ HE1.out).mono ?_
    rintro e w2 ⟨pa, G, rfl, hs2, _, HX⟩
    have HS2 : Hid (Cs w (.pointer (some pa)) N T F st0 G w2) := hs2
    obtain ⟨y0, y1, y2, y3⟩ := HBx.out _ (HW1.out.trans HX)
    clear HX hs2 x0 x1 x2 x3 HN HE1
    go_wp2_with fail
    refine (HR.out _).mono ?_
    rintro e w3 ⟨rfl, HX⟩
    have HP3 : Hid (PV w pa N T F (plS N T F M 0) G w3.heap.size (.slice none 0 0) (w3.alloc (.cells #[.int .i64 (N : Int), .int .i64 (T : Int), .int .i64 (F : Int), .slice none 0 0, .bool false, .bool false, .string ⟨#[]⟩] 32))) :=
      ⟨(HS2.out.ext HX).ext ((Ext.refl _).alloc _), cr_new w3 N T F _ _ _ _ 32, World.ownsRow_nil _ _ _ _, fun b q => (by cases q), fun q => by have := HS2.out.2.2.2.1 _ q; have := HX.size; omega, Nat.le_trans HS2.out.old.size HX.size⟩
    clear HX y0 y1 y2 y3 HR HS2 HBx HW1 HE0
    go_wp2_with fail
    generalize w3.alloc (.cells #[.int .i64 (N : Int), .int .i64 (T : Int), .int .i64 (F : Int), .slice none 0 0, .bool false, .bool false, .string ⟨#[]⟩] 32) = W0 at *
    generalize w3.heap.size = xb at *
    go_loopw [8] (fun u8 wr => ∃ j : Nat, j ≤ L ∧ u8 = .int .i64 j ∧ Hid (∃ ua un uc, PV w pa N T F (plS N T F M j) G xb (.slice ua un uc) wr)) (fun u8 _ => L - (intOf u8).toNat)
    case atStart => exact ⟨0, Nat.zero_le _, rfl, ⟨none, 0, 0, HP3.out⟩⟩
    case round =>
      obtain ⟨j, hj, rfl, HPx⟩ := hrel
      clear HP3
      by_cases hlt : j < L
      · obtain ⟨q1, q0, qw⟩ := lp_nums j L hlt (by omega)
        obtain ⟨m, hm⟩ : ∃ m, M[j]? = some m := ⟨M[j]'(by rw [HLn.out]; exact hlt), List.getElem?_eq_getElem _⟩
        obtain ⟨ua, un, uc, HPy⟩ := HPx.out
        have HP : Hid (PV w pa N T F (plS N T F M j) G xb (.slice ua un uc) wr) := HPy
        have HL2 : MsIs wr (.slice a M.length cap) M := by rw [HLn.out]; exact HL.out.ext HPy.cs.old
        obtain ⟨g, o, rfl, hbl, hd0, hd1, hd2⟩ := HL2.get hm
        have HLm : Hid (∀ W, Ext w W → W.cell? ⟨g, o + j * 3, none⟩ = some (.int .i64 m.kd) ∧ W.cell? ⟨g, o + j * 3 + 1, none⟩ = some (.int .i64 m.fr) ∧ W.cell? ⟨g, o + j * 3 + 2, none⟩ = some (.string m.bd) ∧ g < W.heap.size) := fun W hW => by
          have h3 : MsIs W (.slice (some ⟨g, o, none⟩) M.length cap) M := by rw [HLn.out]; exact HL.out.ext hW
          obtain ⟨g', o', e, k1, k2, k3, k4⟩ := h3.get hm
          injection e with e
          injection e with e1 e2 e3
          subst e1 e2
          exact ⟨k2, k3, k4, k1⟩
        clear HL2 HPx HPy hd0 hd1 hd2 hbl
        have HNx : Hid (plS N T F M (j + 1) = (stp N T F (plS N T F M j) m).1) := plS_step hm
        have Hsl : Hid ((plS N T F M j).L.length ≤ 900) := by show _ ≤ _; have := plS_len N T F M j; omega
        clear hm
        generalize plS N T F M j = s at *
        have HRt : Hid (∀ W, PV w pa N T F s G xb (.slice ua un uc) W → Calls Try.prog 14 #[.agg #[.int .i64 (N : Int), .int .i64 (T : Int), .int .i64 (F : Int), .slice ua un uc, .bool s.rb.isSome, .bool s.tb.isSome, .string (s.tb.getD ⟨#[]⟩)], .agg #[.int .i64 m.kd, .int .i64 m.fr, .string m.bd]] W fun e w' => RkP N T F s m (.slice ua un uc) W e w') := fun W h => rtake_any m h.cs.2.2.2.2.1 h.cs.2.2.2.2.2 Hsl.out W h.hu
        have HTo : Hid (∀ W a k c, Cs w (.pointer (some pa)) N T F s G W → W.ownsRow 0 38 3 (.slice a k c) (stp N T F s m).2.length (mcs (stp N T F s m).2) → (∀ b, Value.ownBlock (.slice a k c) = some b → ¬ G b) → Calls Try.prog 15 #[.pointer (some pa), .agg #[.int .i64 m.kd, .int .i64 m.fr, .string m.bd], .slice a k c] W fun e w' => e = .returned (.tuple #[.string ((stp N T F s m).1.tb.getD ⟨#[]⟩), .bool true]) ∧ Cs w (.pointer (some pa)) N T F (stp N T F s m).1 G w' ∧ Chg G W w') := fun W a k c h1 h2 h3 => told_any m a k c Hsl.out h1 h2 h3
        have HRk : Hid (∀ W e w', RkP N T F s m (.slice ua un uc) W e w' → ∃ a2 n2 c2 aq nq cq, e = .returned (.tuple #[rC N T F (.slice a2 n2 c2) (stp N T F s m).1.rb.isSome (stp N T F s m).1.tb.isSome ((stp N T F s m).1.tb.getD ⟨#[]⟩), .slice aq nq cq]) ∧ w'.ownsRow 0 38 3 (.slice a2 n2 c2) (stp N T F s m).1.L.length (mcs (stp N T F s m).1.L) ∧ (∀ b, Value.ownBlock (.slice a2 n2 c2) = some b → Value.ownBlock (.slice ua un uc) = some b ∨ W.heap.size ≤ b) ∧ w'.ownsRow W.heap.size 38 3 (.slice aq nq cq) (stp N T F s m).2.length (mcs (stp N T F s m).2) ∧ Ext W w') := fun W e w' h => by
          obtain ⟨u2, q, e1, h1, h2, h3, h4, _⟩ := h
          obtain ⟨a2, c2, rfl⟩ := own_len h1
          obtain ⟨aq, cq, rfl⟩ := own_len h3
          exact ⟨a2, _, c2, aq, _, cq, e1, h1, h2, h3, h4⟩
        generalize (stp N T F s m).1 = s2 at *
        generalize (stp N T F s m).2 = O at *
        go_upto_region 10 with fail
        go_cut [9, 10] (fun u9 u10 wx => ∃ yb a2 n2 c2 aq nq cq, u9 = .pointer (some ⟨yb, 0, none⟩) ∧ u10 = .slice aq nq cq ∧ Mid w pa N T F s G xb (.slice ua un uc) s2 O yb (.slice a2 n2 c2) (.slice aq nq cq) wx)
        case first =>
          have HS0 : PV w pa N T F s G xb (.slice ua un uc) wr.drew := HP.out.ext (Ext.refl wr).drew
          clear HP HTo
          refine wp_region_noPanic ?_
          refine wp_region_held (S := PV w pa N T F s G xb (.slice ua un uc)) (by kernel_rfl) ?_
          rw [show ({ wr with drawn := wr.drawn + 1 } : World) = wr.drew from rfl]
          generalize wr.drew = y0 at *
          refine held_take (i := 0) (v := ?vp0) rfl (by kernel_rfl) (by kernel_rfl) (by kernel_rfl) (fun _ _ _ h => h) rfl ?hyp0 HS0 ?restp0
          case hyp0 => (intro wx hSx; have hbx := hSx.hx.1; have c0 : wx.cell? ⟨xb, 0, none⟩ = some (.int .i64 (N : Int)) := (hSx.hx.2 0 (by decide)).1; have c1 : wx.cell? ⟨xb, 1, none⟩ = some (.int .i64 (T : Int)) := (hSx.hx.2 1 (by decide)).1; have c2 : wx.cell? ⟨xb, 2, none⟩ = some (.int .i64 (F : Int)) := (hSx.hx.2 2 (by decide)).1; have c3 : wx.cell? ⟨xb, 3, none⟩ = some (.slice ua un uc) := (hSx.hx.2 3 (by decide)).1; have c4 : wx.cell? ⟨xb, 4, none⟩ = some (.bool s.rb.isSome) := (hSx.hx.2 4 (by decide)).1; have c5 : wx.cell? ⟨xb, 5, none⟩ = some (.bool s.tb.isSome) := (hSx.hx.2 5 (by decide)).1; have c6 : wx.cell? ⟨xb, 6, none⟩ = some (.string (s.tb.getD ⟨#[]⟩)) := (hSx.hx.2 6 (by decide)).1; go_simp; try with_reducible rfl)
          try simp only [Act.put, List.setIfInBounds_toArray, List.set_cons_zero, List.set_cons_succ]
          refine held_take (i := 1) (v := ?vp1) rfl (by kernel_rfl) (by kernel_rfl) (by kernel_rfl) (fun _ _ _ h => h) rfl ?hyp1 HS0 ?restp1
          case hyp1 => (intro wx hSx; go_simp; try with_reducible rfl)
          try simp only [Act.put, List.setIfInBounds_toArray, List.set_cons_zero, List.set_cons_succ]
          refine held_take (i := 2) (v := ?vp2) rfl (by kernel_rfl) (by kernel_rfl) (by kernel_rfl) (fun _ _ _ h => h) rfl ?hyp2 HS0 ?restp2
          case hyp2 => (intro wx hSx; go_simp; try with_reducible rfl)
          try simp only [Act.put, List.setIfInBounds_toArray, List.set_cons_zero, List.set_cons_succ]
          refine held_take (i := 3) (v := ?vp3) rfl (by kernel_rfl) (by kernel_rfl) (by kernel_rfl) (fun _ _ _ h => h) rfl ?hyp3 HS0 ?restp3
          case hyp3 => (intro wx hSx; go_simp; try with_reducible rfl)
          try simp only [Act.put, List.setIfInBounds_toArray, List.set_cons_zero, List.set_cons_succ]
          refine held_take (i := 4) (v := ?vp4) rfl (by kernel_rfl) (by kernel_rfl) (by kernel_rfl) (fun _ _ _ h => h) rfl ?hyp4 HS0 ?restp4
          case hyp4 => (intro wx hSx; obtain ⟨k0, k1, k2, k3⟩ := HLm.out wx hSx.cs.old; go_simp; try with_reducible rfl)
          try simp only [Act.put, List.setIfInBounds_toArray, List.set_cons_zero, List.set_cons_succ]
          refine held_two (i := 5) (k := 9) (by kernel_rfl) rfl rfl rfl rfl (fun K hK => ?_) (fun K hK => ?_)
          · go_simp
            refine (HRt.out _ HS0).mono ?_
            intro e yC hrk
            obtain ⟨a2, n2, c2, aq, nq, cq, rfl, r1, r2, r3, r4⟩ := HRk.out _ _ _ hrk
            clear hrk
            have HSc : PV w pa N T F s G xb (.slice ua un uc) yC := HS0.ext r4
            try go_simp
            refine hK.out _ _ ⟨HSc, ?_⟩
            clear hK K
            try simp only [Act.put, List.setIfInBounds_toArray, List.set_cons_zero, List.set_cons_succ]
            refine held_take (i := 6) (v := ?vp6n1) rfl (by kernel_rfl) (by kernel_rfl) (by kernel_rfl) (fun _ _ _ h => h) rfl ?hyp6n1 HSc ?restp6n1
            case hyp6n1 => (intro wx hSx; go_simp; try with_reducible rfl)
            try simp only [Act.put, List.setIfInBounds_toArray, List.set_cons_zero, List.set_cons_succ]
            refine held_take (i := 7) (v := ?vp7n1) rfl (by kernel_rfl) (by kernel_rfl) (by kernel_rfl) (fun _ _ _ h => h) rfl ?hyp7n1 HSc ?restp7n1
            case hyp7n1 => (intro wx hSx; go_simp; try with_reducible rfl)
            try simp only [Act.put, List.setIfInBounds_toArray, List.set_cons_zero, List.set_cons_succ]
            refine held_take (i := 8) (v := ?vp8n1) rfl (by kernel_rfl) (by kernel_rfl) (by kernel_rfl) (fun _ _ _ h => h) rfl ?hyp8n1 HSc ?restp8n1
            case hyp8n1 => (intro wx hSx; go_simp; try with_reducible rfl)
            try simp only [Act.put, List.setIfInBounds_toArray, List.set_cons_zero, List.set_cons_succ]
            refine held_one (i := 9) (by kernel_rfl) rfl rfl (fun K hK => ?_)
            go_simp
            have HSb : PV w pa N T F s G xb (.slice ua un uc) (yC.alloc (.cells #[.int .i64 0, .int .i64 0, .int .i64 0, .slice none 0 0, .bool false, .bool false, .string ⟨#[]⟩] 32)) := HSc.ext ((Ext.refl _).alloc _)
            have HYc : Blk (yC.alloc (.cells #[.int .i64 0, .int .i64 0, .int .i64 0, .slice none 0 0, .bool false, .bool false, .string ⟨#[]⟩] 32)) yC.heap.size 7 (cr 0 0 0 (.slice none 0 0) false false ⟨#[]⟩) := cr_new yC 0 0 0 _ _ _ _ 32
            have r1d := own_ext r1 ((Ext.refl yC).alloc (.cells #[.int .i64 0, .int .i64 0, .int .i64 0, .slice none 0 0, .bool false, .bool false, .string ⟨#[]⟩] 32))
            have r3d := own_ext r3 ((Ext.refl yC).alloc (.cells #[.int .i64 0, .int .i64 0, .int .i64 0, .slice none 0 0, .bool false, .bool false, .string ⟨#[]⟩] 32))
            generalize yC.alloc (.cells #[.int .i64 0, .int .i64 0, .int .i64 0, .slice none 0 0, .bool false, .bool false, .string ⟨#[]⟩] 32) = yD at *
            try go_simp
            refine hK.out _ _ ⟨HSb, ?_⟩
            clear hK K
            try simp only [Act.put, List.setIfInBounds_toArray, List.set_cons_zero, List.set_cons_succ]
            refine held_one (i := 10) (by kernel_rfl) rfl rfl (fun K hK => ?_)
            have hyl := HYc.1
            have v0 := (HYc.2 0 (by decide)).1
            have z0 := (HYc.2 0 (by decide)).2
            have v1 := (HYc.2 1 (by decide)).1
            have z1 := (HYc.2 1 (by decide)).2
            have v2 := (HYc.2 2 (by decide)).1
            have z2 := (HYc.2 2 (by decide)).2
            have v3 := (HYc.2 3 (by decide)).1
            have z3 := (HYc.2 3 (by decide)).2
            have v4 := (HYc.2 4 (by decide)).1
            have z4 := (HYc.2 4 (by decide)).2
            have v5 := (HYc.2 5 (by decide)).1
            have z5 := (HYc.2 5 (by decide)).2
            have v6 := (HYc.2 6 (by decide)).1
            have z6 := (HYc.2 6 (by decide)).2
            have HMid : Mid w pa N T F s G xb (.slice ua un uc) s2 O yC.heap.size (.slice a2 n2 c2) (.slice aq nq cq) (put7 yD yC.heap.size (.int .i64 (N : Int)) (.int .i64 (T : Int)) (.int .i64 (F : Int)) (.slice a2 n2 c2) (.bool s2.rb.isSome) (.bool s2.tb.isSome) (.string (s2.tb.getD ⟨#[]⟩))) := by
              have g0 := HS0.cs.2.2.2.1
              have x0 := HS0.hx.1
              have w0 := HS0.cs.old.size
              have hu0 := fun b z => (HS0.hu.lt b z).2
              have h4 := r4.size
              refine HSb.mid HYc (fun q => by have := g0 _ q; omega) (by omega) (by omega) (fun z => by have := hu0 _ z; omega) r1d (fun b z => ?_) (own_base r3d (Nat.zero_le _)) (fun b z => ?_)
              · have hb := (r1.lt b z).2
                rcases r2 b z with q | q
                · exact ⟨(HS0.ub b q).1, (HS0.ub b q).2, by have := hu0 b q; omega⟩
                · exact ⟨fun y => by have := g0 b y; omega, by omega, by omega⟩
              · have hb := r3.lt b z
                exact ⟨fun y => by have := g0 b y; omega, by omega, by omega⟩
            have HM : Hid (Mid w pa N T F s G xb (.slice ua un uc) s2 O yC.heap.size (.slice a2 n2 c2) (.slice aq nq cq) _) := HMid
            have HS9 := HMid.pv
            clear r1 r2 r3 HMid
            go_simp
            refine hK.out _ _ ⟨HS9, ?_⟩
            clear hK K
            try simp only [Act.put, List.setIfInBounds_toArray, List.set_cons_zero, List.set_cons_succ]
            refine held_take (i := 11) (v := ?vp11n1) rfl (by kernel_rfl) (by kernel_rfl) (by kernel_rfl) (fun _ _ _ h => h) rfl ?hyp11n1 HS9 ?restp11n1
            case hyp11n1 => (intro wx hSx; go_simp; try with_reducible rfl)
            try simp only [Act.put, List.setIfInBounds_toArray, List.set_cons_zero, List.set_cons_succ]
            refine wpAnyH_done (by kernel_rfl) ?_ _
            refine NoPanic.normal ?_
            go_wp2_with fail
            go_meet
            case rel => exact ⟨yC.heap.size, a2, n2, c2, aq, nq, cq, rfl, rfl, HM.out⟩
          · go_simp
            have HSa : PV w pa N T F s G xb (.slice ua un uc) (y0.alloc (.cells #[.int .i64 0, .int .i64 0, .int .i64 0, .slice none 0 0, .bool false, .bool false, .string ⟨#[]⟩] 32)) := HS0.ext ((Ext.refl _).alloc _)
            have HYb : Blk (y0.alloc (.cells #[.int .i64 0, .int .i64 0, .int .i64 0, .slice none 0 0, .bool false, .bool false, .string ⟨#[]⟩] 32)) y0.heap.size 7 (cr 0 0 0 (.slice none 0 0) false false ⟨#[]⟩) := cr_new y0 0 0 0 _ _ _ _ 32
            have HYn : y0.heap.size < (y0.alloc (.cells #[.int .i64 0, .int .i64 0, .int .i64 0, .slice none 0 0, .bool false, .bool false, .string ⟨#[]⟩] 32)).heap.size := HYb.1
            generalize y0.alloc (.cells #[.int .i64 0, .int .i64 0, .int .i64 0, .slice none 0 0, .bool false, .bool false, .string ⟨#[]⟩] 32) = yA at *
            try go_simp
            refine hK.out _ _ ⟨HSa, ?_⟩
            clear hK K
            try simp only [Act.put, List.setIfInBounds_toArray, List.set_cons_zero, List.set_cons_succ]
            refine held_one (i := 5) (by kernel_rfl) rfl rfl (fun K hK => ?_)
            go_simp
            refine (HRt.out _ HSa).mono ?_
            intro e yC hrk
            obtain ⟨a2, n2, c2, aq, nq, cq, rfl, r1, r2, r3, r4⟩ := HRk.out _ _ _ hrk
            clear hrk
            have HSc : PV w pa N T F s G xb (.slice ua un uc) yC := HSa.ext r4
            try go_simp
            refine hK.out _ _ ⟨HSc, ?_⟩
            clear hK K
            try simp only [Act.put, List.setIfInBounds_toArray, List.set_cons_zero, List.set_cons_succ]
            refine held_take (i := 6) (v := ?vp6n2) rfl (by kernel_rfl) (by kernel_rfl) (by kernel_rfl) (fun _ _ _ h => h) rfl ?hyp6n2 HSc ?restp6n2
            case hyp6n2 => (intro wx hSx; go_simp; try with_reducible rfl)
            try simp only [Act.put, List.setIfInBounds_toArray, List.set_cons_zero, List.set_cons_succ]
            refine held_take (i := 7) (v := ?vp7n2) rfl (by kernel_rfl) (by kernel_rfl) (by kernel_rfl) (fun _ _ _ h => h) rfl ?hyp7n2 HSc ?restp7n2
            case hyp7n2 => (intro wx hSx; go_simp; try with_reducible rfl)
            try simp only [Act.put, List.setIfInBounds_toArray, List.set_cons_zero, List.set_cons_succ]
            refine held_take (i := 8) (v := ?vp8n2) rfl (by kernel_rfl) (by kernel_rfl) (by kernel_rfl) (fun _ _ _ h => h) rfl ?hyp8n2 HSc ?restp8n2
            case hyp8n2 => (intro wx hSx; go_simp; try with_reducible rfl)
            try simp only [Act.put, List.setIfInBounds_toArray, List.set_cons_zero, List.set_cons_succ]
            refine held_one (i := 10) (by kernel_rfl) rfl rfl (fun K hK => ?_)
            have HYc := HYb.ext r4
            have hyl := HYc.1
            have v0 := (HYc.2 0 (by decide)).1
            have z0 := (HYc.2 0 (by decide)).2
            have v1 := (HYc.2 1 (by decide)).1
            have z1 := (HYc.2 1 (by decide)).2
            have v2 := (HYc.2 2 (by decide)).1
            have z2 := (HYc.2 2 (by decide)).2
            have v3 := (HYc.2 3 (by decide)).1
            have z3 := (HYc.2 3 (by decide)).2
            have v4 := (HYc.2 4 (by decide)).1
            have z4 := (HYc.2 4 (by decide)).2
            have v5 := (HYc.2 5 (by decide)).1
            have z5 := (HYc.2 5 (by decide)).2
            have v6 := (HYc.2 6 (by decide)).1
            have z6 := (HYc.2 6 (by decide)).2
            have HMid : Mid w pa N T F s G xb (.slice ua un uc) s2 O y0.heap.size (.slice a2 n2 c2) (.slice aq nq cq) (put7 yC y0.heap.size (.int .i64 (N : Int)) (.int .i64 (T : Int)) (.int .i64 (F : Int)) (.slice a2 n2 c2) (.bool s2.rb.isSome) (.bool s2.tb.isSome) (.string (s2.tb.getD ⟨#[]⟩))) := by
              have g0 := HS0.cs.2.2.2.1
              have x0 := HS0.hx.1
              have w0 := HS0.cs.old.size
              have hu0 := fun b z => (HS0.hu.lt b z).2
              have h4 := r4.size
              refine HSc.mid HYc (fun q => by have := g0 _ q; omega) (by omega) (by omega) (fun z => by have := hu0 _ z; omega) r1 (fun b z => ?_) (own_base r3 (Nat.zero_le _)) (fun b z => ?_)
              · rcases r2 b z with q | q
                · exact ⟨(HS0.ub b q).1, (HS0.ub b q).2, by have := hu0 b q; omega⟩
                · exact ⟨fun y => by have := g0 b y; omega, by omega, by omega⟩
              · have hb := r3.lt b z
                exact ⟨fun y => by have := g0 b y; omega, by omega, by omega⟩
            have HM : Hid (Mid w pa N T F s G xb (.slice ua un uc) s2 O y0.heap.size (.slice a2 n2 c2) (.slice aq nq cq) _) := HMid
            have HS9 := HMid.pv
            clear r1 r2 r3 HMid
            go_simp
            refine hK.out _ _ ⟨HS9, ?_⟩
            clear hK K
            try simp only [Act.put, List.setIfInBounds_toArray, List.set_cons_zero, List.set_cons_succ]
            refine held_take (i := 11) (v := ?vp11n2) rfl (by kernel_rfl) (by kernel_rfl) (by kernel_rfl) (fun _ _ _ h => h) rfl ?hyp11n2 HS9 ?restp11n2
            case hyp11n2 => (intro wx hSx; go_simp; try with_reducible rfl)
            try simp only [Act.put, List.setIfInBounds_toArray, List.set_cons_zero, List.set_cons_succ]
            refine wpAnyH_done (by kernel_rfl) ?_ _
            refine NoPanic.normal ?_
            go_wp2_with fail
            go_meet
            case rel => exact ⟨y0.heap.size, a2, n2, c2, aq, nq, cq, rfl, rfl, HM.out⟩
        case rest =>
          obtain ⟨yb, a2, n2, c2, aq, nq, cq, rfl, rfl, hmid⟩ := hcut
          have HX9 : Hid (Nxt w pa N T F s G xb s2 O (.slice a2 n2 c2) (.slice aq nq cq) (((((((wc.setCell ⟨xb, 0, none⟩ (.int .i64 (N : Int))).setCell ⟨xb, 1, none⟩ (.int .i64 (T : Int))).setCell ⟨xb, 2, none⟩ (.int .i64 (F : Int))).setCell ⟨xb, 3, none⟩ (.slice a2 n2 c2)).setCell ⟨xb, 4, none⟩ (.bool s2.rb.isSome)).setCell ⟨xb, 5, none⟩ (.bool s2.tb.isSome)).setCell ⟨xb, 6, none⟩ (.string (s2.tb.getD ⟨#[]⟩)))) := hmid.next
          have hlyb := hmid.hy.1
          have cyb0 : wc.cell? ⟨yb, 0, none⟩ = some (.int .i64 (N : Int)) := (hmid.hy.2 0 (by decide)).1
          have cyb1 : wc.cell? ⟨yb, 1, none⟩ = some (.int .i64 (T : Int)) := (hmid.hy.2 1 (by decide)).1
          have cyb2 : wc.cell? ⟨yb, 2, none⟩ = some (.int .i64 (F : Int)) := (hmid.hy.2 2 (by decide)).1
          have cyb3 : wc.cell? ⟨yb, 3, none⟩ = some (.slice a2 n2 c2) := (hmid.hy.2 3 (by decide)).1
          have cyb4 : wc.cell? ⟨yb, 4, none⟩ = some (.bool s2.rb.isSome) := (hmid.hy.2 4 (by decide)).1
          have cyb5 : wc.cell? ⟨yb, 5, none⟩ = some (.bool s2.tb.isSome) := (hmid.hy.2 5 (by decide)).1
          have cyb6 : wc.cell? ⟨yb, 6, none⟩ = some (.string (s2.tb.getD ⟨#[]⟩)) := (hmid.hy.2 6 (by decide)).1
          have hlxb := hmid.pv.hx.1
          have cxb0 : wc.cell? ⟨xb, 0, none⟩ = some (.int .i64 (N : Int)) := (hmid.pv.hx.2 0 (by decide)).1
          have cxb1 : wc.cell? ⟨xb, 1, none⟩ = some (.int .i64 (T : Int)) := (hmid.pv.hx.2 1 (by decide)).1
          have cxb2 : wc.cell? ⟨xb, 2, none⟩ = some (.int .i64 (F : Int)) := (hmid.pv.hx.2 2 (by decide)).1
          have cxb3 : wc.cell? ⟨xb, 3, none⟩ = some (.slice ua un uc) := (hmid.pv.hx.2 3 (by decide)).1
          have cxb4 : wc.cell? ⟨xb, 4, none⟩ = some (.bool s.rb.isSome) := (hmid.pv.hx.2 4 (by decide)).1
          have cxb5 : wc.cell? ⟨xb, 5, none⟩ = some (.bool s.tb.isSome) := (hmid.pv.hx.2 5 (by decide)).1
          have cxb6 : wc.cell? ⟨xb, 6, none⟩ = some (.string (s.tb.getD ⟨#[]⟩)) := (hmid.pv.hx.2 6 (by decide)).1
          have f0 := (hmid.pv.hx.2 0 (by decide)).2
          have f1 := (hmid.pv.hx.2 1 (by decide)).2
          have f2 := (hmid.pv.hx.2 2 (by decide)).2
          have f3 := (hmid.pv.hx.2 3 (by decide)).2
          have f4 := (hmid.pv.hx.2 4 (by decide)).2
          have f5 := (hmid.pv.hx.2 5 (by decide)).2
          have f6 := (hmid.pv.hx.2 6 (by decide)).2
          have hne := hmid.yx
          clear hmid HP HRt HRk
          obtain ⟨k0, k1, k2, k3⟩ := HLm.out _ HX9.out.cs.old
          go_wp2_with fail
          generalize (((((((wc.setCell ⟨xb, 0, none⟩ (.int .i64 (N : Int))).setCell ⟨xb, 1, none⟩ (.int .i64 (T : Int))).setCell ⟨xb, 2, none⟩ (.int .i64 (F : Int))).setCell ⟨xb, 3, none⟩ (.slice a2 n2 c2)).setCell ⟨xb, 4, none⟩ (.bool s2.rb.isSome)).setCell ⟨xb, 5, none⟩ (.bool s2.tb.isSome)).setCell ⟨xb, 6, none⟩ (.string (s2.tb.getD ⟨#[]⟩))) = w9 at *
          refine (HTo.out _ _ _ _ HX9.out.cs HX9.out.hq HX9.out.qb).mono ?_
          rintro e w10 ⟨rfl, hs10, hg10⟩
          have HP10 : Hid (PV w pa N T F s2 G xb (.slice a2 n2 c2) w10) := HX9.out.far hg10 hs10
          clear hs10 hg10 HX9 HTo k0 k1 k2 k3 cyb0 cxb0 f0 cyb1 cxb1 f1 cyb2 cxb2 f2 cyb3 cxb3 f3 cyb4 cxb4 f4 cyb5 cxb5 f5 cyb6 cxb6 f6 hlyb hlxb hne
          have c6 : w10.cell? ⟨xb, 6, none⟩ = some (.string (s2.tb.getD ⟨#[]⟩)) := (HP10.out.hx.2 6 (by decide)).1
          have hlx := HP10.out.hx.1
          have bb : ((s2.tb.getD ⟨#[]⟩).toList == (s2.tb.getD ⟨#[]⟩).toList) = true := beq_self_eq_true _
          have bc : (s2.tb.isSome == s2.tb.isSome) = true := beq_self_eq_true _
          go_wp2_with fail
          refine (ltold_any HP10.out.cs).mono ?_
          rintro e w11 ⟨rfl, HX⟩
          have HP11 : Hid (PV w pa N T F s2 G xb (.slice a2 n2 c2) w11) := HP10.out.ext HX
          have c5 : w11.cell? ⟨xb, 5, none⟩ = some (.bool s2.tb.isSome) := (HP11.out.hx.2 5 (by decide)).1
          have hlx2 := HP11.out.hx.1
          clear HX HP10 c6 hlx
          go_wp2
          go_roundw
          case rel => exact ⟨j + 1, hlt, by push_cast; rfl, ⟨a2, n2, c2, by rw [HNx.out]; exact HP11.out⟩⟩
          case measure => exact lp_meas hlt
      · obtain rfl : j = L := by omega
        have hnl : ¬ (j : Int) < (j : Int) := by omega
        have HE : Hid (Ext w wr) := by obtain ⟨ua, un, uc, h⟩ := HPx.out; exact h.cs.old
        clear HPx
        go_wp2_with fail
        refine (awake_any _).mono ?_
        rintro e wa ⟨rfl, HX⟩
        have HEa : Hid (Ext w wa) := HE.out.trans HX
        clear HX
        go_wp2
        go_ret
        exact ⟨rfl, HEa.out⟩
end Go.Proofs.Ytmibekclhnkhnaa

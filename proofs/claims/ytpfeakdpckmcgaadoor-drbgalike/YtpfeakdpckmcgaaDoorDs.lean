/-
  number, firstRight, Scalar, called.
-/
import Derived.Test.YtpfeakdpckmcgaaDoorDb
import Derived.Test.YtpfeakdpckmcgaaDoorNb
import Derived.Test.YtpfeakdpckmcgaaDoorRgC
import Derived.Test.YtpfeakdpckmcgaaDoorSubs
namespace Go.Proofs.YtpfeakdpckmcgaaDoor
set_option maxRecDepth 10000
open Go.RowKit
attribute [local go_sem] run_eq4
/-- The order of scalars lies elsewhere. -/
theorem OGl.chg {w w' : World} {b : Nat} {K V : ByteArray} {A : Int} (hG : OGl w) (h : KB w b K V A) (hc : Chg (fun k => k = b) w w') : OGl w' := by
  have h0 := (h.1.2 0 (by decide)).1
  obtain ⟨g0, g1, g2, g3, g4⟩ := hG
  have n1 : ¬ 0 = b := fun e => by
    subst e
    rw [g1] at h0
    injection h0 with h0
    injection h0 with h0 _
    cases h0
  exact ⟨Nat.lt_of_lt_of_le g0 hc.size, (hc.cell g0 n1).trans g1, (hc.cell g0 n1).trans g2, (hc.cell g0 n1).trans g3, (hc.cell g0 n1).trans g4⟩
theorem RowF.far {w w' : World} {b : Nat} {x0 x1 x2 x3 : Int} {G : Nat → Prop} (h : RowF w b x0 x1 x2 x3) (hc : Chg G w w') (hn : ¬ G b) : RowF w' b x0 x1 x2 x3 := by
  obtain ⟨⟨g0, g1, g2, g3, g4⟩, f0, f1, f2, f3⟩ := h
  exact ⟨⟨Nat.lt_of_lt_of_le g0 hc.size, (hc.cell g0 hn).trans g1, (hc.cell g0 hn).trans g2, (hc.cell g0 hn).trans g3, (hc.cell g0 hn).trans g4⟩, (hc.frozen g0 hn).trans f0, (hc.frozen g0 hn).trans f1, (hc.frozen g0 hn).trans f2, (hc.frozen g0 hn).trans f3⟩
theorem KB.other {w : World} {b c i : Nat} {K V : ByteArray} {A : Int} {v : Value} (h : KB w b K V A) (hne : b ≠ c) : KB (w.setCell ⟨c, i, none⟩ v) b K V A :=
  h.far (Chg.st (F := fun k => k = c) (.inl rfl) (Chg.refl _ w)) hne
set_option maxHeartbeats 2000000 in
theorem knumber_any (K V : ByteArray) (A b : Nat) (hK : K.size = 32) (hV : V.size = 32) (hA : A ≤ 95000000) (w : World) (hG : SGl w) (h : KB w b K V A) :
    Calls Tryd.prog 30 #[.pointer (some ⟨b, 0, none⟩)] w fun e w' => e = .returned (.agg #[.int .u64 (frW (bt (bO K V 32)) 0), .int .u64 (frW (bt (bO K V 32)) 1), .int .u64 (frW (bt (bO K V 32)) 2), .int .u64 (frW (bt (bO K V 32)) 3)]) ∧ KB w' b (bK K V 32) (bV K V 32) ((A + 32 : Nat) : Int) ∧ Chg (fun k => k = b) w w' := by
  have HBy : Hid (∀ W, SGl W → KB W b K V A → Calls Tryd.prog 13 #[.pointer (some ⟨b, 0, none⟩), .int .i64 32] W fun e w' => e = .returned (.tuple #[.string (bO K V 32), .int .i64 0]) ∧ KB w' b (bK K V 32) (bV K V 32) ((A + 32 : Nat) : Int) ∧ Chg (fun k => k = b) W w') := fun W hW hB => kbytes_any K V A 32 b hK hV (by decide) (by omega) W hW hB
  have HN : Hid (∀ W, Calls Tryd.prog 38 #[.string (bO K V 32)] W fun e w' => e = .returned (.agg #[.int .u64 (frW (bt (bO K V 32)) 0), .int .u64 (frW (bt (bO K V 32)) 1), .int .u64 (frW (bt (bO K V 32)) 2), .int .u64 (frW (bt (bO K V 32)) 3)]) ∧ Ext W w') := fun W => number_of_any _ (bO_size K V 32) W
  generalize frW (bt (bO K V 32)) 0 = a0 at *
  generalize frW (bt (bO K V 32)) 1 = a1 at *
  generalize frW (bt (bO K V 32)) 2 = a2 at *
  generalize frW (bt (bO K V 32)) 3 = a3 at *
  generalize bO K V 32 = O at *
  generalize bK K V 32 = K2 at *
  generalize bV K V 32 = V2 at *
  have hE0 : Ext w (w.alloc (.cells #[.int .u64 0, .int .u64 0, .int .u64 0, .int .u64 0] 39)) := (Ext.refl _).alloc _
  have HR0 : Hid (RowF (w.alloc (.cells #[.int .u64 0, .int .u64 0, .int .u64 0, .int .u64 0] 39)) w.heap.size 0 0 0 0) := RowF.new w 0 0 0 0
  have HG0 : Hid (SGl (w.alloc (.cells #[.int .u64 0, .int .u64 0, .int .u64 0, .int .u64 0] 39))) := hG.ext hE0
  have HB0 : Hid (KB (w.alloc (.cells #[.int .u64 0, .int .u64 0, .int .u64 0, .int .u64 0] 39)) b K V A) := h.ext hE0
  have HC0 : Hid (Chg (fun k => k = b) w (w.alloc (.cells #[.int .u64 0, .int .u64 0, .int .u64 0, .int .u64 0] 39))) := Chg.of_ext _ hE0
  have hdb : ¬ w.heap.size = b := by have := h.lt; omega
  clear hE0 h hG hK hV hA
  go_enter Tryd.func30, Tryd.ntmps30
  go_wp2_with fail
  generalize w.alloc (.cells #[.int .u64 0, .int .u64 0, .int .u64 0, .int .u64 0] 39) = W0 at *
  obtain ⟨d, hd⟩ : ∃ d, w.heap.size = d := ⟨_, rfl⟩
  rw [hd] at HR0 hdb ⊢
  have HD : Hid (w.heap.size ≤ d) := Nat.le_of_eq hd
  clear hd
  refine (HBy.out _ HG0.out HB0.out).mono ?_
  rintro e w1 ⟨rfl, hB1, hC1⟩
  have HR1 : Hid (RowF w1 d 0 0 0 0) := HR0.out.far hC1 hdb
  have HB1 : Hid (KB w1 b K2 V2 ((A + 32 : Nat) : Int)) := hB1
  have HC1 : Hid (Chg (fun k => k = b) w w1) := HC0.out.trans hC1 (fun _ q => .inl q)
  clear hB1 hC1 HR0 HB0 HG0 HC0
  go_wp2_with fail
  refine (HN.out _).mono ?_
  rintro e w2 ⟨rfl, HX⟩
  have hR2 := HR1.out.ext HX
  have HB2 : Hid (KB w2 b K2 V2 ((A + 32 : Nat) : Int)) := HB1.out.ext HX
  have HC2 : Hid (Chg (fun k => k = b) w w2) := HC1.out.thenExt HX
  clear HX HR1 HB1 HC1
  have hR3 := RowF.set (v0 := a0) (v1 := a1) (v2 := a2) (v3 := a3) hR2
  have hbd : b ≠ d := fun e => hdb e.symm
  have hB3 := (((HB2.out.other (i := 0) (v := .int .u64 a0) hbd).other (i := 1) (v := .int .u64 a1) hbd).other (i := 2) (v := .int .u64 a2) hbd).other (i := 3) (v := .int .u64 a3) hbd
  have hC3 := Chg.st (i := 3) (v := .int .u64 a3) (.inr HD.out) (Chg.st (i := 2) (v := .int .u64 a2) (.inr HD.out) (Chg.st (i := 1) (v := .int .u64 a1) (.inr HD.out) (Chg.st (i := 0) (v := .int .u64 a0) (.inr HD.out) HC2.out)))
  replace hR3 : Hid _ := hR3
  replace hB3 : Hid _ := hB3
  replace hC3 : Hid _ := hC3
  obtain ⟨⟨n0, n1, n2, n3, n4⟩, k1, k2, k3, k4⟩ := hR2
  clear HB2 HC2
  go_wp2
  clear n0 n1 n2 n3 n4 k1 k2 k3 k4
  generalize (((w2.setCell ⟨d, 0, none⟩ (.int .u64 a0)).setCell ⟨d, 1, none⟩ (.int .u64 a1)).setCell ⟨d, 2, none⟩ (.int .u64 a2)).setCell ⟨d, 3, none⟩ (.int .u64 a3) = w3 at *
  obtain ⟨⟨n0, n1, n2, n3, n4⟩, k1, k2, k3, k4⟩ := hR3.out
  refine bodyPost_ret (v := .agg #[.int .u64 a0, .int .u64 a1, .int .u64 a2, .int .u64 a3]) (by simp [results, Tryd.results30, go_sem, n1, n2, n3, n4]) rfl ⟨rfl, hB3.out, hC3.out⟩
theorem nmV_some (s : ByteArray) : nmV (some s) = .agg #[.int .u64 (frW (bt s) 0), .int .u64 (frW (bt s) 1), .int .u64 (frW (bt s) 2), .int .u64 (frW (bt s) 3)] := rfl
set_option maxHeartbeats 2000000 in
theorem kfirst_any (x : Gs) (b : Nat) (hx : GOk x 90000000) (w : World) (hG : SGl w) (hO : OGl w) (h : KB w b x.1 x.2.1 ((x.2.2 : Nat) : Int)) :
    Calls Tryd.prog 29 #[.func (.func 30) #[.pointer (some ⟨b, 0, none⟩)] #[]] w fun e w' => e = .returned (nmV (gR x)) ∧ KB w' b (gS x).1 (gS x).2.1 (((gS x).2.2 : Nat) : Int) ∧ Chg (fun k => k = b) w w' := by
  obtain ⟨K, V, A⟩ := x
  obtain ⟨hK, hV, hA⟩ := hx
  have S0 : Hid (gSf 64 (K, V, A) = gS (K, V, A) ∧ gRf 64 (K, V, A) = gR (K, V, A)) := gS_def (K, V, A)
  generalize gS (K, V, A) = Y at *
  generalize gR (K, V, A) = O at *
  replace hK : Hid (K.size = 32) := hK
  replace hV : Hid (V.size = 32) := hV
  replace hA : A ≤ 90000000 := hA
  replace h : KB w b K V (A : Int) := h
  have HGs : Hid (∀ W, Chg (fun k => k = b) w W → SGl W) := fun W hc => hG.chg h hc
  have HOs : Hid (∀ W, Chg (fun k => k = b) w W → OGl W) := fun W hc => hO.chg h hc
  have hE0 : Ext w (w.alloc (.cells #[.int .u64 0, .int .u64 0, .int .u64 0, .int .u64 0] 39)) := (Ext.refl _).alloc _
  have HR0 : Hid (RowF (w.alloc (.cells #[.int .u64 0, .int .u64 0, .int .u64 0, .int .u64 0] 39)) w.heap.size 0 0 0 0) := RowF.new w 0 0 0 0
  have HB0 : Hid (KB (w.alloc (.cells #[.int .u64 0, .int .u64 0, .int .u64 0, .int .u64 0] 39)) b K V A) := h.ext hE0
  have HC0 : Hid (Chg (fun k => k = b) w (w.alloc (.cells #[.int .u64 0, .int .u64 0, .int .u64 0, .int .u64 0] 39))) := Chg.of_ext _ hE0
  have hdb : ¬ w.heap.size = b := by have := h.lt; omega
  clear hE0 h hG hO
  go_enter Tryd.func29, Tryd.ntmps29
  go_wp2_with fail
  generalize w.alloc (.cells #[.int .u64 0, .int .u64 0, .int .u64 0, .int .u64 0] 39) = W0 at *
  obtain ⟨d, hd⟩ : ∃ d, w.heap.size = d := ⟨_, rfl⟩
  rw [hd] at HR0 hdb ⊢
  have HD : Hid (w.heap.size ≤ d) := Nat.le_of_eq hd
  clear hd
  go_loopw [4] (fun u4 wr => ∃ (i : Nat) (K V : ByteArray) (A : Nat), i ≤ 64 ∧ u4 = .int .i64 i ∧ Hid (gSf (64 - i) (K, V, A) = Y ∧ gRf (64 - i) (K, V, A) = O) ∧ Hid (K.size = 32) ∧ Hid (V.size = 32) ∧ Hid (A ≤ 90000000 + 32 * i) ∧ Hid (KB wr b K V A) ∧ Hid (RowF wr d 0 0 0 0) ∧ Hid (Chg (fun k => k = b) w wr)) (fun u4 _ => 64 - (intOf u4).toNat)
  case atStart => exact ⟨0, K, V, A, by omega, rfl, S0, hK, hV, (by omega : A ≤ 90000000 + 32 * 0), HB0, HR0, HC0⟩
  case round =>
    clear HB0 HR0 HC0 S0 hK hV hA
    obtain ⟨i, K, V, A, hi, rfl, HS, HK, HV, HA, HB, HR, HC⟩ := hrel
    by_cases hlt : i < 64
    · have hi1 : (i : Int) < 64 := by omega
      obtain ⟨f, hf⟩ : ∃ f, 64 - i = f + 1 := ⟨63 - i, by omega⟩
      have hf2 : 64 - (i + 1) = f := by omega
      have HNm : Hid (∀ W, SGl W → KB W b K V A → Calls Tryd.prog 30 #[.pointer (some ⟨b, 0, none⟩)] W fun e w' => e = .returned (.agg #[.int .u64 (frW (bt (bO K V 32)) 0), .int .u64 (frW (bt (bO K V 32)) 1), .int .u64 (frW (bt (bO K V 32)) 2), .int .u64 (frW (bt (bO K V 32)) 3)]) ∧ KB w' b (bK K V 32) (bV K V 32) ((A + 32 : Nat) : Int) ∧ Chg (fun k => k = b) W w') := fun W hW hB => knumber_any K V A b HK.out HV.out (by have := HA.out; omega) W hW hB
      have HVl : Hid (∀ W, OGl W → Calls Tryd.prog 37 #[.agg #[.int .u64 (frW (bt (bO K V 32)) 0), .int .u64 (frW (bt (bO K V 32)) 1), .int .u64 (frW (bt (bO K V 32)) 2), .int .u64 (frW (bt (bO K V 32)) 3)]] W fun e w' => e = .returned (.bool (decide (val (frW (bt (bO K V 32)) 0) (frW (bt (bO K V 32)) 1) (frW (bt (bO K V 32)) 2) (frW (bt (bO K V 32)) 3) < FQ))) ∧ Ext W w') := fun W hW => svalid_any _ _ _ _ (nm_lim _) W hW
      have HOk := okN_parts (bO K V 32)
      have HYes : Hid (okN (bO K V 32) = true → (bK K V 32, bV K V 32, A + 32) = Y ∧ some (bO K V 32) = O) := by
        intro h
        rw [← gT_mk] at h ⊢
        have a := HS.out.1
        have b := HS.out.2
        rw [hf] at a b
        exact ⟨(gB_mk 32 K V A).symm.trans ((gSf_yes f h).1.symm.trans a), (gSf_yes f h).2.symm.trans b⟩
      have HNo : Hid (okN (bO K V 32) = false → gSf (64 - (i + 1)) (bK K V 32, bV K V 32, A + 32) = Y ∧ gRf (64 - (i + 1)) (bK K V 32, bV K V 32, A + 32) = O) := by
        intro h
        rw [← gT_mk] at h
        have a := HS.out.1
        have b := HS.out.2
        rw [hf] at a b
        rw [hf2, ← gB_mk]
        exact ⟨(gSf_no f h).1.symm.trans a, (gSf_no f h).2.symm.trans b⟩
      have HK2 : Hid ((bK K V 32).size = 32) := bK_size K V 32
      have HV2 : Hid ((bV K V 32).size = 32) := bV_size K V 32
      have HNV : Hid (nmV (some (bO K V 32)) = .agg #[.int .u64 (frW (bt (bO K V 32)) 0), .int .u64 (frW (bt (bO K V 32)) 1), .int .u64 (frW (bt (bO K V 32)) 2), .int .u64 (frW (bt (bO K V 32)) 3)]) := nmV_some (bO K V 32)
      clear hf hf2
      obtain ⟨K2, hK2⟩ : ∃ x, Hid (bK K V 32 = x) := ⟨_, rfl⟩
      obtain ⟨V2, hV2⟩ : ∃ x, Hid (bV K V 32 = x) := ⟨_, rfl⟩
      obtain ⟨s, hs⟩ : ∃ x, Hid (bO K V 32 = x) := ⟨_, rfl⟩
      rw [hK2.out] at HNm HYes HNo HK2
      rw [hV2.out] at HNm HYes HNo HV2
      rw [hs.out] at HNm HVl HOk HYes HNo HNV
      clear hK2 hV2 hs
      obtain ⟨a0, h0⟩ : ∃ x, Hid (frW (bt s) 0 = x) := ⟨_, rfl⟩
      obtain ⟨a1, h1⟩ : ∃ x, Hid (frW (bt s) 1 = x) := ⟨_, rfl⟩
      obtain ⟨a2, h2⟩ : ∃ x, Hid (frW (bt s) 2 = x) := ⟨_, rfl⟩
      obtain ⟨a3, h3⟩ : ∃ x, Hid (frW (bt s) 3 = x) := ⟨_, rfl⟩
      rw [h0.out, h1.out, h2.out, h3.out] at HNm HVl HOk HNV
      clear h0 h1 h2 h3
      obtain ⟨q, hq⟩ : ∃ x, Hid (okN s = x) := ⟨_, rfl⟩
      rw [hq.out] at HOk HYes HNo
      clear hq
      generalize hp : decide (val a0 a1 a2 a3 < FQ) = p at *
      generalize hz : eq4 a0 a1 a2 a3 0 0 0 0 = z at *
      have HOk2 : Hid (q = (p && !z)) := HOk
      clear HOk hp
      have hwr : IntKind.i64.wrap ((i : Int) + 1) = ((i + 1 : Nat) : Int) := by rw [IntKind.wrap_i64]; omega
      go_wp2_with fail
      refine (HNm.out _ (HGs.out _ HC.out) HB.out).mono ?_
      rintro e w1 ⟨rfl, hB1, hC1⟩
      have HB1 : Hid (KB w1 b K2 V2 ((A + 32 : Nat) : Int)) := hB1
      have HR1 : Hid (RowF w1 d 0 0 0 0) := HR.out.far hC1 hdb
      have HC1 : Hid (Chg (fun k => k = b) w w1) := HC.out.trans hC1 (fun _ q => .inl q)
      clear hB1 hC1 HB HR HC
      go_upto_region 4 with fail
      have hE2 : Ext w1 (w1.alloc (.cells #[.int .u64 a0, .int .u64 a1, .int .u64 a2, .int .u64 a3] 39)) := (Ext.refl _).alloc _
      have hM2 : Row (w1.alloc (.cells #[.int .u64 a0, .int .u64 a1, .int .u64 a2, .int .u64 a3] 39)) w1.heap.size a0 a1 a2 a3 := Row.new w1 a0 a1 a2 a3
      have HB2 : Hid (KB (w1.alloc (.cells #[.int .u64 a0, .int .u64 a1, .int .u64 a2, .int .u64 a3] 39)) b K2 V2 ((A + 32 : Nat) : Int)) := HB1.out.ext hE2
      have HR2 : Hid (RowF (w1.alloc (.cells #[.int .u64 a0, .int .u64 a1, .int .u64 a2, .int .u64 a3] 39)) d 0 0 0 0) := HR1.out.ext hE2
      have HC2 : Hid (Chg (fun k => k = b) w (w1.alloc (.cells #[.int .u64 a0, .int .u64 a1, .int .u64 a2, .int .u64 a3] 39))) := HC1.out.thenExt hE2
      have hdm : d ≠ w1.heap.size := by have := HR1.out.1.1; omega
      clear hE2 HB1 HR1 HC1
      generalize w1.alloc (.cells #[.int .u64 a0, .int .u64 a1, .int .u64 a2, .int .u64 a3] 39) = w2 at *
      generalize w1.heap.size = m at *
      obtain ⟨m0, m1, m2, m3, m4⟩ := id hM2
      cases z with
      | true =>
        have hq : q = false := by have := HOk2.out; rw [this]; cases p <;> rfl
        go_wp2_with fail
        go_roundw
        case rel => exact ⟨i + 1, K2, V2, A + 32, hlt, by push_cast; rfl, HNo.out hq, HK2, HV2, (by have := HA.out; omega : A + 32 ≤ 90000000 + 32 * (i + 1)), HB2, HR2, HC2⟩
        case measure => simp [intOf]; omega
      | false =>
        go_wp2_with fail
        refine (HVl.out _ (HOs.out _ HC2.out)).mono ?_
        rintro e w3 ⟨rfl, HX⟩
        clear m0 m1 m2 m3 m4
        have HB3 : Hid (KB w3 b K2 V2 ((A + 32 : Nat) : Int)) := HB2.out.ext HX
        have HR3 : Hid (RowF w3 d 0 0 0 0) := HR2.out.ext HX
        have HC3 : Hid (Chg (fun k => k = b) w w3) := HC2.out.thenExt HX
        obtain ⟨m0, m1, m2, m3, m4⟩ := hM2.ext HX
        clear HX hM2 HB2 HR2 HC2
        cases p with
        | false =>
          have hq : q = false := HOk2.out
          go_wp2_with fail
          go_roundw
          case rel => exact ⟨i + 1, K2, V2, A + 32, hlt, by push_cast; rfl, HNo.out hq, HK2, HV2, (by have := HA.out; omega : A + 32 ≤ 90000000 + 32 * (i + 1)), HB3, HR3, HC3⟩
          case measure => simp [intOf]; omega
        | true =>
          have hq : q = true := HOk2.out
          obtain ⟨rfl, rfl⟩ := HYes.out hq
          have hbd : b ≠ d := fun e => hdb e.symm
          have HR4 : Hid _ := RowF.set (v0 := a0) (v1 := a1) (v2 := a2) (v3 := a3) HR3.out
          have HB4 : Hid _ := (((HB3.out.other (i := 0) (v := .int .u64 a0) hbd).other (i := 1) (v := .int .u64 a1) hbd).other (i := 2) (v := .int .u64 a2) hbd).other (i := 3) (v := .int .u64 a3) hbd
          have HC4 : Hid _ := Chg.st (i := 3) (v := .int .u64 a3) (.inr HD.out) (Chg.st (i := 2) (v := .int .u64 a2) (.inr HD.out) (Chg.st (i := 1) (v := .int .u64 a1) (.inr HD.out) (Chg.st (i := 0) (v := .int .u64 a0) (.inr HD.out) HC3.out)))
          obtain ⟨⟨n0, n1, n2, n3, n4⟩, k1, k2, k3, k4⟩ := HR3.out
          clear HB3 HC3
          go_wp2
          clear n0 n1 n2 n3 n4 k1 k2 k3 k4 m0 m1 m2 m3 m4
          generalize (((w3.setCell ⟨d, 0, none⟩ (.int .u64 a0)).setCell ⟨d, 1, none⟩ (.int .u64 a1)).setCell ⟨d, 2, none⟩ (.int .u64 a2)).setCell ⟨d, 3, none⟩ (.int .u64 a3) = w4 at *
          obtain ⟨⟨n0, n1, n2, n3, n4⟩, k1, k2, k3, k4⟩ := HR4.out
          refine bodyPost_ret (v := .agg #[.int .u64 a0, .int .u64 a1, .int .u64 a2, .int .u64 a3]) (by simp [results, Tryd.results29, go_sem, n1, n2, n3, n4]) rfl ⟨by rw [HNV.out], HB4.out, HC4.out⟩
    · obtain rfl : i = 64 := by omega
      have hi1 : ¬ ((64 : Nat) : Int) < 64 := by omega
      obtain ⟨e1, e2⟩ := gSf_zero (K, V, A)
      have HY : Hid ((K, V, A) = Y ∧ none = O) := ⟨e1.symm.trans HS.out.1, e2.symm.trans HS.out.2⟩
      clear e1 e2 HS
      obtain ⟨rfl, rfl⟩ := HY.out
      clear HY
      have hbd : b ≠ d := fun e => hdb e.symm
      have HR4 : Hid _ := RowF.set (v0 := 1) (v1 := 0) (v2 := 0) (v3 := 0) HR.out
      have HB4 : Hid _ := (((HB.out.other (i := 0) (v := .int .u64 1) hbd).other (i := 1) (v := .int .u64 0) hbd).other (i := 2) (v := .int .u64 0) hbd).other (i := 3) (v := .int .u64 0) hbd
      have HC4 : Hid _ := Chg.st (i := 3) (v := .int .u64 0) (.inr HD.out) (Chg.st (i := 2) (v := .int .u64 0) (.inr HD.out) (Chg.st (i := 1) (v := .int .u64 0) (.inr HD.out) (Chg.st (i := 0) (v := .int .u64 1) (.inr HD.out) HC.out)))
      obtain ⟨⟨n0, n1, n2, n3, n4⟩, k1, k2, k3, k4⟩ := HR.out
      clear HB HC HR
      go_wp2
      clear n0 n1 n2 n3 n4 k1 k2 k3 k4
      generalize (((wr.setCell ⟨d, 0, none⟩ (.int .u64 1)).setCell ⟨d, 1, none⟩ (.int .u64 0)).setCell ⟨d, 2, none⟩ (.int .u64 0)).setCell ⟨d, 3, none⟩ (.int .u64 0) = w4 at *
      obtain ⟨⟨n0, n1, n2, n3, n4⟩, k1, k2, k3, k4⟩ := HR4.out
      refine bodyPost_ret (v := .agg #[.int .u64 1, .int .u64 0, .int .u64 0, .int .u64 0]) (by simp [results, Tryd.results29, go_sem, n1, n2, n3, n4]) rfl ⟨by rw [nmV_none], HB4.out, HC4.out⟩
set_option maxHeartbeats 1000000 in
theorem kscalar_any (x : Gs) (b : Nat) (hx : GOk x 90000000) (w : World) (hG : SGl w) (hO : OGl w) (h : KB w b x.1 x.2.1 ((x.2.2 : Nat) : Int)) :
    Calls Tryd.prog 15 #[.pointer (some ⟨b, 0, none⟩)] w fun e w' => e = .returned (nmV (gR x)) ∧ KB w' b (gS x).1 (gS x).2.1 (((gS x).2.2 : Nat) : Int) ∧ Chg (fun k => k = b) w w' := by
  obtain ⟨a0, a1, a2, a3, HNV⟩ : ∃ a0 a1 a2 a3 : Int, Hid (nmV (gR x) = .agg #[.int .u64 a0, .int .u64 a1, .int .u64 a2, .int .u64 a3]) := ⟨_, _, _, _, rfl⟩
  have HF : Hid (∀ W, SGl W → OGl W → KB W b x.1 x.2.1 ((x.2.2 : Nat) : Int) → Calls Tryd.prog 29 #[.func (.func 30) #[.pointer (some ⟨b, 0, none⟩)] #[]] W fun e w' => e = .returned (nmV (gR x)) ∧ KB w' b (gS x).1 (gS x).2.1 (((gS x).2.2 : Nat) : Int) ∧ Chg (fun k => k = b) W w') := fun W h1 h2 h3 => kfirst_any x b hx W h1 h2 h3
  rw [HNV.out] at HF ⊢
  clear HNV hx
  generalize gS x = Y at *
  have hE0 : Ext w (w.alloc (.cells #[.int .u64 0, .int .u64 0, .int .u64 0, .int .u64 0] 39)) := (Ext.refl _).alloc _
  have HR0 : Hid (RowF (w.alloc (.cells #[.int .u64 0, .int .u64 0, .int .u64 0, .int .u64 0] 39)) w.heap.size 0 0 0 0) := RowF.new w 0 0 0 0
  have HB0 : Hid (KB (w.alloc (.cells #[.int .u64 0, .int .u64 0, .int .u64 0, .int .u64 0] 39)) b x.1 x.2.1 ((x.2.2 : Nat) : Int)) := h.ext hE0
  have HG0 : Hid (SGl (w.alloc (.cells #[.int .u64 0, .int .u64 0, .int .u64 0, .int .u64 0] 39)) ∧ OGl (w.alloc (.cells #[.int .u64 0, .int .u64 0, .int .u64 0, .int .u64 0] 39))) := ⟨hG.ext hE0, hO.ext hE0⟩
  have HC0 : Hid (Chg (fun k => k = b) w (w.alloc (.cells #[.int .u64 0, .int .u64 0, .int .u64 0, .int .u64 0] 39))) := Chg.of_ext _ hE0
  have hdb : ¬ w.heap.size = b := by have := h.lt; omega
  clear hE0 h hG hO
  go_enter Tryd.func15, Tryd.ntmps15
  go_wp2_with fail
  generalize w.alloc (.cells #[.int .u64 0, .int .u64 0, .int .u64 0, .int .u64 0] 39) = W0 at *
  obtain ⟨d, hd⟩ : ∃ d, w.heap.size = d := ⟨_, rfl⟩
  rw [hd] at HR0 hdb ⊢
  have HD : Hid (w.heap.size ≤ d) := Nat.le_of_eq hd
  clear hd
  refine (HF.out _ HG0.out.1 HG0.out.2 HB0.out).mono ?_
  rintro e w2 ⟨rfl, hB1, hC1⟩
  have HR2 : Hid (RowF w2 d 0 0 0 0) := HR0.out.far hC1 hdb
  have HB2 : Hid (KB w2 b Y.1 Y.2.1 ((Y.2.2 : Nat) : Int)) := hB1
  have HC2 : Hid (Chg (fun k => k = b) w w2) := HC0.out.trans hC1 (fun _ q => .inl q)
  clear hB1 hC1 HR0 HB0 HG0 HC0
  have hbd : b ≠ d := fun e => hdb e.symm
  have HR4 : Hid _ := RowF.set (v0 := a0) (v1 := a1) (v2 := a2) (v3 := a3) HR2.out
  have HB4 : Hid _ := (((HB2.out.other (i := 0) (v := .int .u64 a0) hbd).other (i := 1) (v := .int .u64 a1) hbd).other (i := 2) (v := .int .u64 a2) hbd).other (i := 3) (v := .int .u64 a3) hbd
  have HC4 : Hid _ := Chg.st (i := 3) (v := .int .u64 a3) (.inr HD.out) (Chg.st (i := 2) (v := .int .u64 a2) (.inr HD.out) (Chg.st (i := 1) (v := .int .u64 a1) (.inr HD.out) (Chg.st (i := 0) (v := .int .u64 a0) (.inr HD.out) HC2.out)))
  obtain ⟨⟨n0, n1, n2, n3, n4⟩, k1, k2, k3, k4⟩ := HR2.out
  clear HB2 HC2 HR2
  go_wp2
  clear n0 n1 n2 n3 n4 k1 k2 k3 k4
  generalize (((w2.setCell ⟨d, 0, none⟩ (.int .u64 a0)).setCell ⟨d, 1, none⟩ (.int .u64 a1)).setCell ⟨d, 2, none⟩ (.int .u64 a2)).setCell ⟨d, 3, none⟩ (.int .u64 a3) = w4 at *
  obtain ⟨⟨n0, n1, n2, n3, n4⟩, k1, k2, k3, k4⟩ := HR4.out
  refine bodyPost_ret (v := .agg #[.int .u64 a0, .int .u64 a1, .int .u64 a2, .int .u64 a3]) (by simp [results, Tryd.results15, go_sem, n1, n2, n3, n4]) rfl ⟨rfl, HB4.out, HC4.out⟩
end Go.Proofs.YtpfeakdpckmcgaaDoor

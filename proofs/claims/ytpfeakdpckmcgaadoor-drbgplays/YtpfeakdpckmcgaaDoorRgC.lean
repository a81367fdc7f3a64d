/-
  sandglassref29.Scalar, called; nothing old is turned.
-/
import Derived.Test.YtpfeakdpckmcgaaDoorRgB
import Derived.Test.YtpfeakdpckmcgaaDoorRefAs
namespace Go.Proofs.YtpfeakdpckmcgaaDoor
set_option maxRecDepth 10000
open Go.RowKit
attribute [local go_sem] run_eq4
def gdX (x : Gs) : Value := gdV x.1 x.2.1 ((x.2.2 : Nat) : Int)
def nmV (o : Option ByteArray) : Value := .agg #[.int .u64 (scW o 0), .int .u64 (scW o 1), .int .u64 (scW o 2), .int .u64 (scW o 3)]
theorem lim4_zero : Lim4 0 0 0 0 := ⟨lim_of _ rfl, lim_of _ rfl, lim_of _ rfl, lim_of _ rfl⟩
theorem eq4_zero {a0 a1 a2 a3 : Int} (h : Lim4 a0 a1 a2 a3) : eq4 a0 a1 a2 a3 0 0 0 0 = decide (val a0 a1 a2 a3 = 0) := by
  have k := eq4_iff h lim4_zero
  have e : val 0 0 0 0 = 0 := by decide
  rw [e] at k
  cases hb : eq4 a0 a1 a2 a3 0 0 0 0 with
  | true => exact (decide_eq_true (k.1 hb)).symm
  | false =>
    refine (decide_eq_false fun q => ?_).symm
    rw [k.2 q] at hb
    exact absurd hb (by decide)
theorem okN_parts (s : ByteArray) : okN s = (decide (val (frW (bt s) 0) (frW (bt s) 1) (frW (bt s) 2) (frW (bt s) 3) < FQ) && !eq4 (frW (bt s) 0) (frW (bt s) 1) (frW (bt s) 2) (frW (bt s) 3) 0 0 0 0) := by
  rw [eq4_zero (nm_lim s)]
  rfl
theorem gS_def (x : Gs) : gSf 64 x = gS x ∧ gRf 64 x = gR x := by
  unfold gS gR
  have k : ∀ f, gSf f x = gSf f x ∧ gRf f x = gRf f x := fun f => ⟨Eq.refl _, Eq.refl _⟩
  exact k 64
theorem gSf_def (f : Nat) (x : Gs) : gSf f x = (sc f x).1 := rfl
theorem gRf_def (f : Nat) (x : Gs) : gRf f x = (sc f x).2 := rfl
theorem gSf_yes (f : Nat) {x : Gs} (h : okN (gT 32 x) = true) : gSf (f + 1) x = gB 32 x ∧ gRf (f + 1) x = some (gT 32 x) := by
  rw [gSf_def (f + 1) x, gRf_def (f + 1) x, sc_yes h]
  generalize gT 32 x = t
  generalize gB 32 x = y
  exact ⟨rfl, rfl⟩
theorem gSf_no (f : Nat) {x : Gs} (h : okN (gT 32 x) = false) : gSf (f + 1) x = gSf f (gB 32 x) ∧ gRf (f + 1) x = gRf f (gB 32 x) := by
  rw [gSf_def (f + 1) x, gRf_def (f + 1) x, sc_no h]
  exact ⟨(gSf_def f _).symm, (gRf_def f _).symm⟩
theorem gSf_zero (x : Gs) : gSf 0 x = x ∧ gRf 0 x = none := ⟨rfl, rfl⟩
theorem gB_mk (n : Nat) (K V : ByteArray) (A : Nat) : gB n (K, V, A) = (bK K V n, bV K V n, A + n) := rfl
theorem gT_mk (n : Nat) (K V : ByteArray) (A : Nat) : gT n (K, V, A) = bO K V n := rfl
theorem nmV_none : nmV none = .agg #[.int .u64 1, .int .u64 0, .int .u64 0, .int .u64 0] := rfl
set_option maxHeartbeats 1000000 in
theorem rscalar_any (x : Gs) (hx : GOk x 90000000) (w : World) :
    Calls Tryd.prog 14 #[gdX x] w fun e w' => e = .returned (.tuple #[gdX (gS x), nmV (gR x)]) ∧ Ext w w' := by
  obtain ⟨K, V, A⟩ := x
  obtain ⟨hK, hV, hA⟩ := hx
  have S0 : Hid (gSf 64 (K, V, A) = gS (K, V, A) ∧ gRf 64 (K, V, A) = gR (K, V, A)) := gS_def (K, V, A)
  generalize gS (K, V, A) = Y at *
  generalize gR (K, V, A) = O at *
  replace hK : Hid (K.size = 32) := hK
  replace hV : Hid (V.size = 32) := hV
  replace hA : A ≤ 90000000 := hA
  show Calls Tryd.prog 14 #[gdV K V (A : Int)] w _
  unfold gdV
  have R0 : Hid (GB3 (((w.alloc (.cells #[.string K, .string V, .int .i64 A] 28)).alloc (.cells #[.string ⟨#[]⟩, .string ⟨#[]⟩, .int .i64 0] 28)).alloc (.cells #[.int .u64 0, .int .u64 0, .int .u64 0, .int .u64 0] 39)) w.heap.size K V A) := (GB3.new _ _ _ _ _).ext (((Ext.refl _).alloc _).alloc _)
  have Z0 : Hid (GB3 (((w.alloc (.cells #[.string K, .string V, .int .i64 A] 28)).alloc (.cells #[.string ⟨#[]⟩, .string ⟨#[]⟩, .int .i64 0] 28)).alloc (.cells #[.int .u64 0, .int .u64 0, .int .u64 0, .int .u64 0] 39)) (w.heap.size + 1) ⟨#[]⟩ ⟨#[]⟩ 0) := by
    have := GB3.new (w.alloc (.cells #[.string K, .string V, .int .i64 A] 28)) ⟨#[]⟩ ⟨#[]⟩ 0 28
    rw [World.size_alloc] at this
    exact this.ext ((Ext.refl _).alloc _)
  have N0 : Hid (RowF (((w.alloc (.cells #[.string K, .string V, .int .i64 A] 28)).alloc (.cells #[.string ⟨#[]⟩, .string ⟨#[]⟩, .int .i64 0] 28)).alloc (.cells #[.int .u64 0, .int .u64 0, .int .u64 0, .int .u64 0] 39)) (w.heap.size + 1 + 1) 0 0 0 0) := by
    have := RowF.new ((w.alloc (.cells #[.string K, .string V, .int .i64 A] 28)).alloc (.cells #[.string ⟨#[]⟩, .string ⟨#[]⟩, .int .i64 0] 28)) 0 0 0 0
    rw [World.size_alloc, World.size_alloc] at this
    exact this
  have HE0 : Hid (Ext w (((w.alloc (.cells #[.string K, .string V, .int .i64 A] 28)).alloc (.cells #[.string ⟨#[]⟩, .string ⟨#[]⟩, .int .i64 0] 28)).alloc (.cells #[.int .u64 0, .int .u64 0, .int .u64 0, .int .u64 0] 39))) := (((Ext.refl _).alloc _).alloc _).alloc _
  have hG0 : SizeLe w w.heap.size := Nat.le_refl _
  have hG1 : SizeLe w (w.heap.size + 1) := Nat.le_succ _
  have hG2 : SizeLe w (w.heap.size + 1 + 1) := Nat.le_trans (Nat.le_succ _) (Nat.le_succ _)
  go_enter Tryd.func14, Tryd.ntmps14
  go_wp2_with fail
  generalize ((w.alloc (.cells #[.string K, .string V, .int .i64 A] 28)).alloc (.cells #[.string ⟨#[]⟩, .string ⟨#[]⟩, .int .i64 0] 28)).alloc (.cells #[.int .u64 0, .int .u64 0, .int .u64 0, .int .u64 0] 39) = W0 at *
  obtain ⟨d, hd⟩ : ∃ d, w.heap.size + 1 + 1 = d := ⟨_, rfl⟩
  obtain ⟨c, hc⟩ : ∃ c, w.heap.size + 1 = c := ⟨_, rfl⟩
  have hcb : w.heap.size ≠ c := by omega
  have hdb : w.heap.size ≠ d := by omega
  have hdc : c ≠ d := by omega
  rw [hd] at N0 hG2 ⊢
  rw [hc] at Z0 hG1 ⊢
  clear hc hd
  generalize w.heap.size = b at *
  go_loopw [4] (fun u4 wr => ∃ (i : Nat) (K V : ByteArray) (A : Nat), i ≤ 64 ∧ u4 = .int .i64 i ∧ Hid (gSf (64 - i) (K, V, A) = Y ∧ gRf (64 - i) (K, V, A) = O) ∧ Hid (K.size = 32) ∧ Hid (V.size = 32) ∧ Hid (A ≤ 90000000 + 32 * i) ∧ Hid (GB3 wr b K V A) ∧ Hid (GB3 wr c ⟨#[]⟩ ⟨#[]⟩ 0) ∧ Hid (RowF wr d 0 0 0 0) ∧ Hid (Ext w wr)) (fun u4 _ => 64 - (intOf u4).toNat)
  case atStart => exact ⟨0, K, V, A, by omega, rfl, S0, hK, hV, (by omega : A ≤ 90000000 + 32 * 0), R0, Z0, N0, HE0⟩
  case round =>
    clear R0 Z0 HE0 N0 S0 hK hV hA
    obtain ⟨i, K, V, A, hi, rfl, HS, HK, HV, HA, R, Z, N, HE⟩ := hrel
    by_cases hlt : i < 64
    · have hi1 : (i : Int) < 64 := by omega
      obtain ⟨f, hf⟩ : ∃ f, 64 - i = f + 1 := ⟨63 - i, by omega⟩
      have hf2 : 64 - (i + 1) = f := by omega
      have HB : Hid (∀ W, Calls Tryd.prog 12 #[gdV K V A, .int .i64 32] W fun e w' => e = .returned (.tuple #[gdV (bK K V 32) (bV K V 32) ((A + 32 : Nat) : Int), .string (bO K V 32), .int .i64 0]) ∧ Ext W w') := fun W => rbytes_any K V A 32 HK.out HV.out (by omega) (by have := HA.out; omega) W
      have HF : Hid (∀ W, Calls Tryd.prog 28 #[.string (bO K V 32)] W fun e w' => e = .returned (.tuple #[.agg #[.int .u64 (frW (bt (bO K V 32)) 0), .int .u64 (frW (bt (bO K V 32)) 1), .int .u64 (frW (bt (bO K V 32)) 2), .int .u64 (frW (bt (bO K V 32)) 3)], .int .i64 0]) ∧ Ext W w') := fun W => refFrom_any _ (bO_size K V 32) W
      have HVl : Hid (∀ W, Calls Tryd.prog 22 #[.agg #[.int .u64 (frW (bt (bO K V 32)) 0), .int .u64 (frW (bt (bO K V 32)) 1), .int .u64 (frW (bt (bO K V 32)) 2), .int .u64 (frW (bt (bO K V 32)) 3)]] W fun e w' => e = .returned (.bool (decide (val (frW (bt (bO K V 32)) 0) (frW (bt (bO K V 32)) 1) (frW (bt (bO K V 32)) 2) (frW (bt (bO K V 32)) 3) < FQ))) ∧ Ext W w') := fun W => refSValid_any _ _ _ _ (nm_lim _) W
      have HOk := okN_parts (bO K V 32)
      have HYes : Hid (okN (bO K V 32) = true → (bK K V 32, bV K V 32, A + 32) = Y ∧ some (bO K V 32) = O) := by
        intro h
        rw [← gT_mk] at h ⊢
        have a := HS.out.1
        have b := HS.out.2
        rw [hf] at a b
        exact ⟨(gB_mk 32 K V A).symm.trans ((gSf_yes f h).1.symm.trans a), (gSf_yes f h).2.symm.trans b⟩
      have HNo : Hid (okN (bO K V 32) = false → gSf (64 - (i + 1)) (bK K V 32, bV K V 32, A + 32) = Y ∧ gRf (64 - (i + 1)) (bK K V 32, bV K V 32, A + 32) = O) := by
        intro h
        rw [← gT_mk] at h
        have a := HS.out.1
        have b := HS.out.2
        rw [hf] at a b
        rw [hf2, ← gB_mk]
        exact ⟨(gSf_no f h).1.symm.trans a, (gSf_no f h).2.symm.trans b⟩
      have HK2 : Hid ((bK K V 32).size = 32) := bK_size K V 32
      have HV2 : Hid ((bV K V 32).size = 32) := bV_size K V 32
      have HW : Hid (∀ j, scW (some (bO K V 32)) j = frW (bt (bO K V 32)) j) := fun j => rfl
      clear hf hf2
      have HW0 : Hid (scW (some (bO K V 32)) 0 = frW (bt (bO K V 32)) 0) := HW.out 0
      have HW1 : Hid (scW (some (bO K V 32)) 1 = frW (bt (bO K V 32)) 1) := HW.out 1
      have HW2 : Hid (scW (some (bO K V 32)) 2 = frW (bt (bO K V 32)) 2) := HW.out 2
      have HW3 : Hid (scW (some (bO K V 32)) 3 = frW (bt (bO K V 32)) 3) := HW.out 3
      clear HW
      obtain ⟨K2, hK2⟩ : ∃ x, Hid (bK K V 32 = x) := ⟨_, rfl⟩
      obtain ⟨V2, hV2⟩ : ∃ x, Hid (bV K V 32 = x) := ⟨_, rfl⟩
      obtain ⟨s, hs⟩ : ∃ x, Hid (bO K V 32 = x) := ⟨_, rfl⟩
      rw [hK2.out] at HB HYes HNo HK2
      rw [hV2.out] at HB HYes HNo HV2
      rw [hs.out] at HB HF HVl HOk HYes HNo HW0 HW1 HW2 HW3
      clear hK2 hV2 hs
      obtain ⟨a0, h0⟩ : ∃ x, Hid (frW (bt s) 0 = x) := ⟨_, rfl⟩
      obtain ⟨a1, h1⟩ : ∃ x, Hid (frW (bt s) 1 = x) := ⟨_, rfl⟩
      obtain ⟨a2, h2⟩ : ∃ x, Hid (frW (bt s) 2 = x) := ⟨_, rfl⟩
      obtain ⟨a3, h3⟩ : ∃ x, Hid (frW (bt s) 3 = x) := ⟨_, rfl⟩
      rw [h0.out, h1.out, h2.out, h3.out] at HF HVl HOk
      rw [h0.out] at HW0
      rw [h1.out] at HW1
      rw [h2.out] at HW2
      rw [h3.out] at HW3
      clear h0 h1 h2 h3
      obtain ⟨q, hq⟩ : ∃ x, Hid (okN s = x) := ⟨_, rfl⟩
      rw [hq.out] at HOk HYes HNo
      clear hq
      generalize hp : decide (val a0 a1 a2 a3 < FQ) = p at *
      generalize hz : eq4 a0 a1 a2 a3 0 0 0 0 = z at *
      have HOk2 : Hid (q = (p && !z)) := HOk
      clear HOk hp
      have hwr : IntKind.i64.wrap ((i : Int) + 1) = ((i + 1 : Nat) : Int) := by rw [IntKind.wrap_i64]; omega
      unfold gdV at HB
      obtain ⟨r0, ⟨c0, c1, c2⟩, f0, f1, f2⟩ := id R.out
      go_wp2_with fail
      refine (HB.out _).mono ?_
      rintro e w1 ⟨rfl, HX⟩
      clear r0 c0 c1 c2 f0 f1 f2
      have R1 := R.out.ext HX
      have Z1 := Z.out.ext HX
      have N1 := N.out.ext HX
      have HE1 : Hid (Ext w w1) := HE.out.trans HX
      clear HX R Z N HE
      have T1 : GB3 (w1.alloc (.cells #[.string K2, .string V2, .int .i64 ((A : Int) + 32)] 28)) w1.heap.size K2 V2 ((A : Int) + 32) := GB3.new w1 K2 V2 _ 28
      have hbg : w1.heap.size ≠ b := by have := R1.1; omega
      have hcg : w1.heap.size ≠ c := by have := Z1.1; omega
      have hdg : w1.heap.size ≠ d := by have := N1.1.1; omega
      have hGg : SizeLe w w1.heap.size := HE1.out.size
      replace R1 : GB3 (w1.alloc (.cells #[.string K2, .string V2, .int .i64 ((A : Int) + 32)] 28)) b K V A := R1.ext ((Ext.refl w1).alloc _)
      replace Z1 : GB3 (w1.alloc (.cells #[.string K2, .string V2, .int .i64 ((A : Int) + 32)] 28)) c ⟨#[]⟩ ⟨#[]⟩ 0 := Z1.ext ((Ext.refl w1).alloc _)
      replace N1 : RowF (w1.alloc (.cells #[.string K2, .string V2, .int .i64 ((A : Int) + 32)] 28)) d 0 0 0 0 := N1.ext ((Ext.refl w1).alloc _)
      replace HE1 : Hid (Ext w (w1.alloc (.cells #[.string K2, .string V2, .int .i64 ((A : Int) + 32)] 28))) := HE1.out.trans ((Ext.refl w1).alloc _)
      go_upto_region 5 with fail
      generalize (w1.alloc (.cells #[.string K2, .string V2, .int .i64 ((A : Int) + 32)] 28)) = W1 at *
      generalize w1.heap.size = g at *
      have R2 : Hid (GB3 (((W1.setCell ⟨b, 0, none⟩ (.string K2)).setCell ⟨b, 1, none⟩ (.string V2)).setCell ⟨b, 2, none⟩ (.int .i64 ((A : Int) + 32))) b K2 V2 ((A : Int) + 32)) := ((R1.setK K2).setV V2).setA _
      have Z2 : Hid (GB3 (((W1.setCell ⟨b, 0, none⟩ (.string K2)).setCell ⟨b, 1, none⟩ (.string V2)).setCell ⟨b, 2, none⟩ (.int .i64 ((A : Int) + 32))) c ⟨#[]⟩ ⟨#[]⟩ 0) := ((Z1.other hcb).other hcb).other hcb
      have N2 : Hid (RowF (((W1.setCell ⟨b, 0, none⟩ (.string K2)).setCell ⟨b, 1, none⟩ (.string V2)).setCell ⟨b, 2, none⟩ (.int .i64 ((A : Int) + 32))) d 0 0 0 0) := ((N1.other hdb.symm).other hdb.symm).other hdb.symm
      have HE2 : Hid (Ext w (((W1.setCell ⟨b, 0, none⟩ (.string K2)).setCell ⟨b, 1, none⟩ (.string V2)).setCell ⟨b, 2, none⟩ (.int .i64 ((A : Int) + 32)))) := Ext.st hG0 (Ext.st hG0 (Ext.st hG0 HE1.out))
      obtain ⟨r0, ⟨c0, c1, c2⟩, f0, f1, f2⟩ := R1
      obtain ⟨t0, ⟨d0, d1, d2⟩, g0, g1, g2⟩ := T1
      go_upto_region 6 with fail
      clear r0 c0 c1 c2 f0 f1 f2 t0 d0 d1 d2 g0 g1 g2 Z1 N1 HE1
      generalize ((W1.setCell ⟨b, 0, none⟩ (.string K2)).setCell ⟨b, 1, none⟩ (.string V2)).setCell ⟨b, 2, none⟩ (.int .i64 ((A : Int) + 32)) = W2 at *
      go_wp2_with fail
      refine (HF.out _).mono ?_
      rintro e w3 ⟨rfl, HX⟩
      have R3 := R2.out.ext HX
      have Z3 := Z2.out.ext HX
      have N3 := N2.out.ext HX
      have HE3 : Hid (Ext w w3) := HE2.out.trans HX
      clear HX R2 Z2 N2 HE2
      go_upto_region 7 with fail
      have hcm : w3.heap.size ≠ c := by have := Z3.1; omega
      have hdm : w3.heap.size ≠ d := by have := N3.1.1; omega
      have M4 : Row (w3.alloc (.cells #[.int .u64 a0, .int .u64 a1, .int .u64 a2, .int .u64 a3] 39)) w3.heap.size a0 a1 a2 a3 := Row.new w3 a0 a1 a2 a3
      replace R3 : GB3 (w3.alloc (.cells #[.int .u64 a0, .int .u64 a1, .int .u64 a2, .int .u64 a3] 39)) b K2 V2 ((A : Int) + 32) := R3.ext ((Ext.refl w3).alloc _)
      replace Z3 : GB3 (w3.alloc (.cells #[.int .u64 a0, .int .u64 a1, .int .u64 a2, .int .u64 a3] 39)) c ⟨#[]⟩ ⟨#[]⟩ 0 := Z3.ext ((Ext.refl w3).alloc _)
      replace N3 : RowF (w3.alloc (.cells #[.int .u64 a0, .int .u64 a1, .int .u64 a2, .int .u64 a3] 39)) d 0 0 0 0 := N3.ext ((Ext.refl w3).alloc _)
      replace HE3 : Hid (Ext w (w3.alloc (.cells #[.int .u64 a0, .int .u64 a1, .int .u64 a2, .int .u64 a3] 39))) := HE3.out.trans ((Ext.refl w3).alloc _)
      generalize (w3.alloc (.cells #[.int .u64 a0, .int .u64 a1, .int .u64 a2, .int .u64 a3] 39)) = W3 at *
      generalize w3.heap.size = m at *
      obtain ⟨m0, m1, m2, m3, m4⟩ := id M4
      go_wp2_with fail
      refine (HVl.out _).mono ?_
      rintro e w4 ⟨rfl, HX⟩
      clear m0 m1 m2 m3 m4
      have R4 : Hid (GB3 w4 b K2 V2 ((A : Int) + 32)) := R3.ext HX
      have Z4 : Hid (GB3 w4 c ⟨#[]⟩ ⟨#[]⟩ 0) := Z3.ext HX
      have N4 : Hid (RowF w4 d 0 0 0 0) := N3.ext HX
      have HE4 : Hid (Ext w w4) := HE3.out.trans HX
      have M5 := M4.ext HX
      clear HX R3 Z3 N3 HE3 M4
      obtain ⟨m0, m1, m2, m3, m4⟩ := M5
      cases p with
      | false =>
        have hq : q = false := HOk2.out
        go_wp2_with fail
        go_roundw
        case rel => exact ⟨i + 1, K2, V2, A + 32, hlt, by go_num, HNo.out hq, HK2, HV2, (by have := HA.out; omega : A + 32 ≤ 90000000 + 32 * (i + 1)), R4, Z4, N4, HE4⟩
        case measure => simp [intOf]; omega
      | true =>
        cases z with
        | true =>
          have hq : q = false := HOk2.out
          go_wp2_with fail
          go_roundw
          case rel => exact ⟨i + 1, K2, V2, A + 32, hlt, by go_num, HNo.out hq, HK2, HV2, (by have := HA.out; omega : A + 32 ≤ 90000000 + 32 * (i + 1)), R4, Z4, N4, HE4⟩
          case measure => simp [intOf]; omega
        | false =>
          have hq : q = true := HOk2.out
          obtain ⟨rfl, rfl⟩ := HYes.out hq
          obtain ⟨r0, ⟨c0, c1, c2⟩, f0, f1, f2⟩ := R4.out
          obtain ⟨z0, ⟨d0, d1, d2⟩, g0, g1, g2⟩ := Z4.out
          obtain ⟨⟨n0, n1, n2, n3, n4⟩, k1, k2, k3, k4⟩ := N4.out
          have hmc := hcm.symm
          have hmd := hdm.symm
          have hbc := hcb.symm
          have hbd := hdb.symm
          have hcd := hdc.symm
          go_upto_region 8 with fail
          go_region
          go_wp2
          clear z0 d0 d1 d2 g0 g1 g2 n0 n1 n2 n3 n4 k1 k2 k3 k4
          have ZZ : GB3 (((w4.setCell ⟨c, 0, none⟩ (.string K2)).setCell ⟨c, 1, none⟩ (.string V2)).setCell ⟨c, 2, none⟩ (.int .i64 ((A : Int) + 32))) c K2 V2 ((A : Int) + 32) := ((Z4.out.setK K2).setV V2).setA _
          have NN : RowF (((w4.setCell ⟨c, 0, none⟩ (.string K2)).setCell ⟨c, 1, none⟩ (.string V2)).setCell ⟨c, 2, none⟩ (.int .i64 ((A : Int) + 32))) d 0 0 0 0 := ((N4.out.other hdc.symm).other hdc.symm).other hdc.symm
          have Z6 : GB3 (((((((w4.setCell ⟨c, 0, none⟩ (.string K2)).setCell ⟨c, 1, none⟩ (.string V2)).setCell ⟨c, 2, none⟩ (.int .i64 ((A : Int) + 32))).setCell ⟨d, 0, none⟩ (.int .u64 a0)).setCell ⟨d, 1, none⟩ (.int .u64 a1)).setCell ⟨d, 2, none⟩ (.int .u64 a2)).setCell ⟨d, 3, none⟩ (.int .u64 a3)).drew c K2 V2 ((A : Int) + 32) := ((((ZZ.other hdc.symm).other hdc.symm).other hdc.symm).other hdc.symm).ext ((Ext.refl _).drew)
          have N6 : RowF (((((((w4.setCell ⟨c, 0, none⟩ (.string K2)).setCell ⟨c, 1, none⟩ (.string V2)).setCell ⟨c, 2, none⟩ (.int .i64 ((A : Int) + 32))).setCell ⟨d, 0, none⟩ (.int .u64 a0)).setCell ⟨d, 1, none⟩ (.int .u64 a1)).setCell ⟨d, 2, none⟩ (.int .u64 a2)).setCell ⟨d, 3, none⟩ (.int .u64 a3)).drew d a0 a1 a2 a3 := (NN.set (v0 := a0) (v1 := a1) (v2 := a2) (v3 := a3)).ext ((Ext.refl _).drew)
          have H6 : Ext w ((((((((w4.setCell ⟨c, 0, none⟩ (.string K2)).setCell ⟨c, 1, none⟩ (.string V2)).setCell ⟨c, 2, none⟩ (.int .i64 ((A : Int) + 32))).setCell ⟨d, 0, none⟩ (.int .u64 a0)).setCell ⟨d, 1, none⟩ (.int .u64 a1)).setCell ⟨d, 2, none⟩ (.int .u64 a2)).setCell ⟨d, 3, none⟩ (.int .u64 a3)).drew) := (Ext.st hG2 (Ext.st hG2 (Ext.st hG2 (Ext.st hG2 (Ext.st hG1 (Ext.st hG1 (Ext.st hG1 HE4.out))))))).drew
          clear ZZ NN
          generalize (((((((w4.setCell ⟨c, 0, none⟩ (.string K2)).setCell ⟨c, 1, none⟩ (.string V2)).setCell ⟨c, 2, none⟩ (.int .i64 ((A : Int) + 32))).setCell ⟨d, 0, none⟩ (.int .u64 a0)).setCell ⟨d, 1, none⟩ (.int .u64 a1)).setCell ⟨d, 2, none⟩ (.int .u64 a2)).setCell ⟨d, 3, none⟩ (.int .u64 a3)).drew = W6 at *
          obtain ⟨z0, ⟨d0, d1, d2⟩, g0, g1, g2⟩ := Z6
          obtain ⟨⟨n0, n1, n2, n3, n4⟩, k1, k2, k3, k4⟩ := N6
          refine bodyPost_ret (v := .tuple #[.agg #[.string K2, .string V2, .int .i64 ((A : Int) + 32)], .agg #[.int .u64 a0, .int .u64 a1, .int .u64 a2, .int .u64 a3]]) (by simp [results, Tryd.results14, go_sem, d0, d1, d2, n1, n2, n3, n4]) rfl ⟨?_, H6⟩
          unfold gdX nmV gdV
          rw [HW0.out, HW1.out, HW2.out, HW3.out]
          show _ = Ending.returned (.tuple #[.agg #[.string K2, .string V2, .int .i64 ((A + 32 : Nat) : Int)], _])
          rw [Int.natCast_add]
          rfl
    · obtain rfl : i = 64 := by omega
      have hi2 : ¬ (((64 : Nat) : Int) < 64) := by omega
      have h0 := gSf_zero (K, V, A)
      rw [Nat.sub_self] at HS
      obtain ⟨hy, ho⟩ := HS.out
      rw [h0.1] at hy
      rw [h0.2] at ho
      subst hy ho
      have hbc := hcb.symm
      have hbd := hdb.symm
      have hcd := hdc.symm
      obtain ⟨r0, ⟨c0, c1, c2⟩, f0, f1, f2⟩ := R.out
      obtain ⟨z0, ⟨d0, d1, d2⟩, g0, g1, g2⟩ := Z.out
      obtain ⟨⟨n0, n1, n2, n3, n4⟩, k1, k2, k3, k4⟩ := N.out
      go_wp2
      clear z0 d0 d1 d2 g0 g1 g2 n0 n1 n2 n3 n4 k1 k2 k3 k4
      have ZZ : GB3 (((wr.setCell ⟨c, 0, none⟩ (.string K)).setCell ⟨c, 1, none⟩ (.string V)).setCell ⟨c, 2, none⟩ (.int .i64 (A))) c K V (A) := ((Z.out.setK K).setV V).setA _
      have NN : RowF (((wr.setCell ⟨c, 0, none⟩ (.string K)).setCell ⟨c, 1, none⟩ (.string V)).setCell ⟨c, 2, none⟩ (.int .i64 (A))) d 0 0 0 0 := ((N.out.other hdc.symm).other hdc.symm).other hdc.symm
      have Z6 : GB3 (((((((wr.setCell ⟨c, 0, none⟩ (.string K)).setCell ⟨c, 1, none⟩ (.string V)).setCell ⟨c, 2, none⟩ (.int .i64 (A))).setCell ⟨d, 0, none⟩ (.int .u64 1)).setCell ⟨d, 1, none⟩ (.int .u64 0)).setCell ⟨d, 2, none⟩ (.int .u64 0)).setCell ⟨d, 3, none⟩ (.int .u64 0)) c K V (A) := ((((ZZ.other hdc.symm).other hdc.symm).other hdc.symm).other hdc.symm)
      have N6 : RowF (((((((wr.setCell ⟨c, 0, none⟩ (.string K)).setCell ⟨c, 1, none⟩ (.string V)).setCell ⟨c, 2, none⟩ (.int .i64 (A))).setCell ⟨d, 0, none⟩ (.int .u64 1)).setCell ⟨d, 1, none⟩ (.int .u64 0)).setCell ⟨d, 2, none⟩ (.int .u64 0)).setCell ⟨d, 3, none⟩ (.int .u64 0)) d 1 0 0 0 := (NN.set (v0 := 1) (v1 := 0) (v2 := 0) (v3 := 0))
      have H6 : Ext w ((((((((wr.setCell ⟨c, 0, none⟩ (.string K)).setCell ⟨c, 1, none⟩ (.string V)).setCell ⟨c, 2, none⟩ (.int .i64 (A))).setCell ⟨d, 0, none⟩ (.int .u64 1)).setCell ⟨d, 1, none⟩ (.int .u64 0)).setCell ⟨d, 2, none⟩ (.int .u64 0)).setCell ⟨d, 3, none⟩ (.int .u64 0))) := Ext.st hG2 (Ext.st hG2 (Ext.st hG2 (Ext.st hG2 (Ext.st hG1 (Ext.st hG1 (Ext.st hG1 HE.out))))))
      clear ZZ NN
      generalize (((((((wr.setCell ⟨c, 0, none⟩ (.string K)).setCell ⟨c, 1, none⟩ (.string V)).setCell ⟨c, 2, none⟩ (.int .i64 (A))).setCell ⟨d, 0, none⟩ (.int .u64 1)).setCell ⟨d, 1, none⟩ (.int .u64 0)).setCell ⟨d, 2, none⟩ (.int .u64 0)).setCell ⟨d, 3, none⟩ (.int .u64 0)) = W6 at *
      obtain ⟨z0, ⟨d0, d1, d2⟩, g0, g1, g2⟩ := Z6
      obtain ⟨⟨n0, n1, n2, n3, n4⟩, k1, k2, k3, k4⟩ := N6
      refine bodyPost_ret (v := .tuple #[.agg #[.string K, .string V, .int .i64 (A)], .agg #[.int .u64 1, .int .u64 0, .int .u64 0, .int .u64 0]]) (by simp [results, Tryd.results14, go_sem, d0, d1, d2, n1, n2, n3, n4]) rfl ⟨?_, H6⟩
      rw [nmV_none]
      rfl
end Go.Proofs.YtpfeakdpckmcgaaDoor

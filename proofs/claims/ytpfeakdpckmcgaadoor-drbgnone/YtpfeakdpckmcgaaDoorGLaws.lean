/-
  DrbgNone, DrbgAlike, DrbgShorter, called: true; nothing old is turned.
-/
import Derived.Test.YtpfeakdpckmcgaaDoorGAwake
namespace Go.Proofs.YtpfeakdpckmcgaaDoor
set_option maxRecDepth 10000
open Go.RowKit
attribute [local go_sem] run_eq4
set_option maxHeartbeats 1000000 in
theorem drbgNone_any (n : Int) (s : ByteArray) (w : World) (hG : Gl w) : Calls Tryd.prog 7 #[.int .i64 n, .string s] w fun e w' => e = .returned (.bool true) ∧ Ext w w' := by
  have he : eq4 0 0 0 0 0 0 0 0 = true := rfl
  have hem : ((⟨#[]⟩ : ByteArray).toList == (⟨#[]⟩ : ByteArray).toList) = true := beq_self_eq_true _
  go_enter Tryd.func7, Tryd.ntmps7
  go_wp2_with fail
  refine (dreseed_nil s _).mono ?_
  rintro e w1 ⟨rfl, HX⟩
  have HE1 : Hid (Ext w w1) := HX
  clear HX
  go_wp2_with fail
  refine (dbytes_nil n _).mono ?_
  rintro e w2 ⟨rfl, HX⟩
  have HE2 : Hid (Ext w w2) := HE1.out.trans HX
  clear HX
  go_wp2_with fail
  refine (dscalar_nil _).mono ?_
  rintro e w3 ⟨rfl, HX⟩
  have HE3 : Hid (Ext w w3) := HE2.out.trans HX
  clear HX
  go_wp2_with fail
  refine (dpoly_nil n _).mono ?_
  rintro e w4 ⟨rfl, HX⟩
  have HE4 : Hid (Ext w w4) := HE3.out.trans HX
  clear HX
  go_wp2_with fail
  refine (dasked_nil _).mono ?_
  rintro e w5 ⟨rfl, HX⟩
  have HE5 : Hid (Ext w w5) := HE4.out.trans HX
  clear HX
  go_wp2_with fail
  refine (awake_any _ (hG.ext HE5.out)).mono ?_
  rintro e w6 ⟨rfl, HX⟩
  have HE6 : Hid (Ext w w6) := HE5.out.trans HX
  clear HX
  go_wp2
  go_ret
  exact ⟨rfl, HE6.out⟩
def byBad (n : Int) : Bool := decide (n < 0) || decide (4096 < n)
def byT (n : Int) (x : Gs) : ByteArray := if byBad n = true then ⟨#[]⟩ else gT n.toNat x
def byE (n : Int) : Int := if byBad n = true then 1 else 0
def byX (n : Int) (x : Gs) : Gs := if byBad n = true then x else gB n.toNat x
theorem dbytes_all {w : World} {v : Value} {x : Gs} {F : Nat → Prop} (n : Int) (hx : GOk x 1000000) (hG : Gl w) (h : DAt w v x F) : Calls Tryd.prog 13 #[v, .int .i64 n] w fun e w' => e = .returned (.tuple #[.string (byT n x), .int .i64 (byE n)]) ∧ Stp w v (byX n x) F w' := by
  cases hb : byBad n with
  | true =>
    unfold byT byE byX
    rw [if_pos hb, if_pos hb, if_pos hb]
    refine dbytes_bad n ?_ hG h
    unfold byBad at hb
    simpa using hb
  | false =>
    unfold byT byE byX
    have hq : ¬ byBad n = true := by rw [hb]; decide
    rw [if_neg hq, if_neg hq, if_neg hq]
    have hh : 0 ≤ n ∧ n ≤ 4096 := by
      unfold byBad at hb
      simp at hb
      exact hb
    obtain ⟨m, rfl⟩ := Int.eq_ofNat_of_zero_le hh.1
    rw [Int.toNat_natCast]
    exact dbytes_any m (by omega) hx hG h
theorem byX_ok {n : Int} {x : Gs} {b : Nat} (h : GOk x b) : GOk (byX n x) (b + 4096) := by
  unfold byX
  split
  · exact h.mono (by omega)
  · rename_i hq
    have hh : n ≤ 4096 := by
      unfold byBad at hq
      simp at hq
      exact hq.2
    exact (gB_ok n.toNat h).mono (by omega)
theorem eq4_self (a0 a1 a2 a3 : Int) : eq4 a0 a1 a2 a3 a0 a1 a2 a3 = true := by simp [eq4]
set_option maxHeartbeats 2000000 in
theorem drbgAlike_any (s : ByteArray) (n0 n1 : Int) (w : World) (hG : Gl w) : Calls Tryd.prog 4 #[.string s, .agg #[.int .i64 n0, .int .i64 n1]] w fun e w' => e = .returned (.bool true) ∧ Ext w w' := by
  have HA : Hid (∀ W, Ext w W → Calls Tryd.prog 9 #[] W fun e w' => e = .returned (.bool true) ∧ Ext W w') := fun W hW => awake_any W (hG.ext hW)
  have hAg : (w.alloc (.cells #[.int .i64 n0, .int .i64 n1] 51)).cell? ⟨w.heap.size, 0, none⟩ = some (.int .i64 n0) ∧ (w.alloc (.cells #[.int .i64 n0, .int .i64 n1] 51)).cell? ⟨w.heap.size, 1, none⟩ = some (.int .i64 n1) := ⟨by rw [World.cell?_alloc_at _ _ _ _ rfl]; rfl, by rw [World.cell?_alloc_at _ _ _ _ rfl]; rfl⟩
  obtain ⟨ha0, ha1⟩ := hAg
  have HE0 : Hid (Ext w (w.alloc (.cells #[.int .i64 n0, .int .i64 n1] 51))) := (Ext.refl _).alloc _
  by_cases h1 : 1000 < s.size
  · have h1' : (1000 : Int) < (s.size : Int) := by omega
    go_enter Tryd.func4, Tryd.ntmps4
    go_wp2_with fail
    refine (HA.out _ HE0.out).mono ?_
    rintro e w1 ⟨rfl, HX⟩
    have HE1 : Hid (Ext w w1) := HE0.out.trans HX
    clear HX
    go_wp2
    go_ret
    exact ⟨rfl, HE1.out⟩
  have h1' : ¬ (1000 : Int) < (s.size : Int) := by omega
  by_cases h2 : 500 < n0
  · go_enter Tryd.func4, Tryd.ntmps4
    go_wp2_with fail
    refine (HA.out _ HE0.out).mono ?_
    rintro e w1 ⟨rfl, HX⟩
    have HE1 : Hid (Ext w w1) := HE0.out.trans HX
    clear HX
    go_wp2
    go_ret
    exact ⟨rfl, HE1.out⟩
  by_cases h3 : 500 < n1
  · go_enter Tryd.func4, Tryd.ntmps4
    go_wp2_with fail
    refine (HA.out _ HE0.out).mono ?_
    rintro e w1 ⟨rfl, HX⟩
    have HE1 : Hid (Ext w w1) := HE0.out.trans HX
    clear HX
    go_wp2
    go_ret
    exact ⟨rfl, HE1.out⟩
  obtain ⟨X, hX⟩ : ∃ x, Hid (gNew s = x) := ⟨_, rfl⟩
  have hX0 : GOk X 0 := by rw [← hX.out]; exact gNew_ok _
  have hXo : Hid (GOk X 1000000) := hX0.mono (by omega)
  have hX1' : GOk (byX n0 X) 4096 := byX_ok hX0
  have hX1 : Hid (GOk (byX n0 X) 1000000) := hX1'.mono (by omega)
  clear hX0 hX1'
  obtain ⟨X1, hX1e⟩ : ∃ x, Hid (byX n0 X = x) := ⟨_, rfl⟩
  rw [hX1e.out] at hX1
  obtain ⟨T, hT⟩ : ∃ x, Hid (byT n0 X = x) := ⟨_, rfl⟩
  obtain ⟨E, hE⟩ : ∃ x, Hid (byE n0 = x) := ⟨_, rfl⟩
  obtain ⟨X2, hX2e⟩ : ∃ x, Hid (gS X1 = x) := ⟨_, rfl⟩
  obtain ⟨k0, k1, k2, k3, hK⟩ : ∃ k0 k1 k2 k3 : Int, Hid (nmV (gR X1) = .agg #[.int .u64 k0, .int .u64 k1, .int .u64 k2, .int .u64 k3]) := ⟨_, _, _, _, rfl⟩
  have hs : s.size ≤ 1000 := by omega
  go_enter Tryd.func4, Tryd.ntmps4
  go_wp2_with fail
  generalize w.alloc (.cells #[.int .i64 n0, .int .i64 n1] 51) = W0 at *
  generalize hgb : w.heap.size = g at *
  have hG0 := hG.ext HE0.out
  refine (PlD.new (w := W0) s hs hG0 (Ext.refl W0)).mono ?_
  rintro e w1 ⟨a, rfl, P1⟩
  rw [hX.out] at P1
  replace P1 : Hid (PlD W0 (.pointer (some a)) X w1) := P1
  go_wp2_with fail
  refine (Pl2.new s hs hG0 P1.out).mono ?_
  rintro e w2 ⟨b, rfl, P2⟩
  rw [hX.out] at P2
  replace P2 : Hid (Pl2 W0 (.pointer (some a)) (.pointer (some b)) X X w2) := P2
  clear P1
  have ha2 := later P2.out.old ha0
  obtain ⟨F, hD, -, hst⟩ := P2.out.stepA
  replace hst : Hid _ := hst
  go_wp2_with fail
  refine (dbytes_all n0 hXo.out (hG0.ext P2.out.old) hD).mono ?_
  rintro e w3 ⟨rfl, hs3⟩
  have P3 := hst.out _ _ hs3
  rw [hX1e.out] at P3
  rw [hT.out, hE.out]
  replace P3 : Hid (Pl2 W0 (.pointer (some a)) (.pointer (some b)) X1 X w3) := P3
  clear hst hs3 hD P2 ha2
  have ha3 := later P3.out.old ha0
  obtain ⟨F, hD, -, hst⟩ := P3.out.stepB
  replace hst : Hid _ := hst
  go_wp2_with fail
  refine (dbytes_all n0 hXo.out (hG0.ext P3.out.old) hD).mono ?_
  rintro e w4 ⟨rfl, hs4⟩
  have P4 := hst.out _ _ hs4
  rw [hX1e.out] at P4
  rw [hT.out, hE.out]
  replace P4 : Hid (Pl2 W0 (.pointer (some a)) (.pointer (some b)) X1 X1 w4) := P4
  clear hst hs4 hD P3 ha3
  have hTT : (T.toList == T.toList) = true := beq_self_eq_true _
  have hEE : decide (E = E) = true := decide_eq_true rfl
  have hkk := eq4_self k0 k1 k2 k3
  obtain ⟨F, hD, -, hst⟩ := P4.out.stepA
  replace hst : Hid _ := hst
  go_wp2_with fail
  refine (dscalar_any hX1.out (hG0.ext P4.out.old) hD).mono ?_
  rintro e w5 ⟨rfl, hs5⟩
  have P5 := hst.out _ _ hs5
  rw [hX2e.out] at P5
  rw [hK.out]
  replace P5 : Hid (Pl2 W0 (.pointer (some a)) (.pointer (some b)) X2 X1 w5) := P5
  clear hst hs5 hD P4
  obtain ⟨F, hD, -, hst⟩ := P5.out.stepB
  replace hst : Hid _ := hst
  go_wp2_with fail
  refine (dscalar_any hX1.out (hG0.ext P5.out.old) hD).mono ?_
  rintro e w6 ⟨rfl, hs6⟩
  have P6 := hst.out _ _ hs6
  rw [hX2e.out] at P6
  rw [hK.out]
  replace P6 : Hid (Pl2 W0 (.pointer (some a)) (.pointer (some b)) X2 X2 w6) := P6
  clear hst hs6 hD P5
  obtain ⟨F, hD, -, -⟩ := P6.out.stepA
  go_wp2_with fail
  refine (dasked_any hD).mono ?_
  rintro e w7 ⟨rfl, HX⟩
  have P7 : Hid (Pl2 W0 (.pointer (some a)) (.pointer (some b)) X2 X2 w7) := P6.out.ext HX
  clear hD HX P6
  obtain ⟨F, hD, -, -⟩ := P7.out.stepB
  go_wp2_with fail
  refine (dasked_any hD).mono ?_
  rintro e w8 ⟨rfl, HX⟩
  have HE8 : Hid (Ext w w8) := HE0.out.trans (P7.out.ext HX).old
  clear hD HX P7
  go_wp2_with fail
  refine (HA.out _ HE8.out).mono ?_
  rintro e w9 ⟨rfl, HX⟩
  have HE9 : Hid (Ext w w9) := HE8.out.trans HX
  clear HX
  go_wp2
  go_ret
  exact ⟨rfl, HE9.out⟩
set_option maxHeartbeats 2000000 in
theorem drbgShorter_any (s : ByteArray) (n m : Int) (w : World) (hG : Gl w) : Calls Tryd.prog 6 #[.string s, .int .i64 n, .int .i64 m] w fun e w' => e = .returned (.bool true) ∧ Ext w w' := by
  have HA : Hid (∀ W, Ext w W → Calls Tryd.prog 9 #[] W fun e w' => e = .returned (.bool true) ∧ Ext W w') := fun W hW => awake_any W (hG.ext hW)
  by_cases h1 : 1000 < s.size
  · have h1' : (1000 : Int) < (s.size : Int) := by omega
    go_enter Tryd.func6, Tryd.ntmps6
    go_wp2_with fail
    refine (HA.out _ (Ext.refl w)).mono ?_
    rintro e w1 ⟨rfl, HX⟩
    replace HX : Hid (Ext w w1) := HX
    go_wp2
    go_ret
    exact ⟨rfl, HX.out⟩
  have h1' : ¬ (1000 : Int) < (s.size : Int) := by omega
  by_cases h2 : n < 1
  · go_enter Tryd.func6, Tryd.ntmps6
    go_wp2_with fail
    refine (HA.out _ (Ext.refl w)).mono ?_
    rintro e w1 ⟨rfl, HX⟩
    replace HX : Hid (Ext w w1) := HX
    go_wp2
    go_ret
    exact ⟨rfl, HX.out⟩
  by_cases h3 : m < n
  · go_enter Tryd.func6, Tryd.ntmps6
    go_wp2_with fail
    refine (HA.out _ (Ext.refl w)).mono ?_
    rintro e w1 ⟨rfl, HX⟩
    replace HX : Hid (Ext w w1) := HX
    go_wp2
    go_ret
    exact ⟨rfl, HX.out⟩
  by_cases h4 : 32 < m
  · go_enter Tryd.func6, Tryd.ntmps6
    go_wp2_with fail
    refine (HA.out _ (Ext.refl w)).mono ?_
    rintro e w1 ⟨rfl, HX⟩
    replace HX : Hid (Ext w w1) := HX
    go_wp2
    go_ret
    exact ⟨rfl, HX.out⟩
  obtain ⟨n, rfl⟩ := Int.eq_ofNat_of_zero_le (show 0 ≤ n by omega)
  obtain ⟨m, rfl⟩ := Int.eq_ofNat_of_zero_le (show 0 ≤ m by omega)
  obtain ⟨X, hX⟩ : ∃ x, Hid (gNew s = x) := ⟨_, rfl⟩
  have hX0 : GOk X 0 := by rw [← hX.out]; exact gNew_ok _
  have hXo : Hid (GOk X 1000000) := hX0.mono (by omega)
  have hXa : Hid (GOk (gB n X) 1000000) := (gB_ok n hX0).mono (by omega)
  have hXb : Hid (GOk (gB m X) 1000000) := (gB_ok m hX0).mono (by omega)
  obtain ⟨e1, e2, e3⟩ := gB_short (x := X) (n := n) (m := m) (by omega) (by omega) (by omega)
  have HUV : Hid (gT 9 (gB m X) = gT 9 (gB n X)) := by
    show gT 9 (gB m X) = gT 9 (gB n X)
    unfold gT
    rw [e1, e2]
  have HSn : Hid ((gT n X).size = n) := bO_size _ _ _
  have HTm : Hid ((gT m X).size = m) := bO_size _ _ _
  clear e1 e2 hX0
  obtain ⟨Xa, hXae⟩ : ∃ x, Hid (gB n X = x) := ⟨_, rfl⟩
  obtain ⟨Xb, hXbe⟩ : ∃ x, Hid (gB m X = x) := ⟨_, rfl⟩
  obtain ⟨S, hS⟩ : ∃ x, Hid (gT n X = x) := ⟨_, rfl⟩
  obtain ⟨T, hT⟩ : ∃ x, Hid (gT m X = x) := ⟨_, rfl⟩
  rw [hXae.out] at hXa HUV
  rw [hXbe.out] at hXb HUV
  rw [hS.out] at e3 HSn
  rw [hT.out] at e3 HTm
  obtain ⟨U, hU⟩ : ∃ x, Hid (gT 9 Xa = x) := ⟨_, rfl⟩
  rw [hU.out] at HUV
  replace e3 : Hid (S = T.extract 0 n) := e3
  have hs : s.size ≤ 1000 := by omega
  have hnm : Hid (1 ≤ n ∧ n ≤ m ∧ m ≤ 32) := (by omega : 1 ≤ n ∧ n ≤ m ∧ m ≤ 32)
  go_enter Tryd.func6, Tryd.ntmps6
  go_wp2_with fail
  refine (PlD.new (w := w) s hs hG (Ext.refl w)).mono ?_
  rintro e w1 ⟨a, rfl, P1⟩
  rw [hX.out] at P1
  replace P1 : Hid (PlD w (.pointer (some a)) X w1) := P1
  go_wp2_with fail
  refine (Pl2.new s hs hG P1.out).mono ?_
  rintro e w2 ⟨b, rfl, P2⟩
  rw [hX.out] at P2
  replace P2 : Hid (Pl2 w (.pointer (some a)) (.pointer (some b)) X X w2) := P2
  clear P1
  obtain ⟨F, hD, -, hst⟩ := P2.out.stepA
  replace hst : Hid _ := hst
  go_wp2_with fail
  refine (dbytes_any n (by have := hnm.out; omega) hXo.out (hG.ext P2.out.old) hD).mono ?_
  rintro e w3 ⟨rfl, hs3⟩
  have P3 := hst.out _ _ hs3
  rw [hXae.out] at P3
  rw [hS.out]
  replace P3 : Hid (Pl2 w (.pointer (some a)) (.pointer (some b)) Xa X w3) := P3
  clear hst hs3 hD P2
  obtain ⟨F, hD, -, hst⟩ := P3.out.stepB
  replace hst : Hid _ := hst
  go_wp2_with fail
  refine (dbytes_any m (by have := hnm.out; omega) hXo.out (hG.ext P3.out.old) hD).mono ?_
  rintro e w4 ⟨rfl, hs4⟩
  have P4 := hst.out _ _ hs4
  rw [hXbe.out] at P4
  rw [hT.out]
  replace P4 : Hid (Pl2 w (.pointer (some a)) (.pointer (some b)) Xa Xb w4) := P4
  clear hst hs4 hD P3
  obtain ⟨F, hD, -, hst⟩ := P4.out.stepA
  replace hst : Hid _ := hst
  go_wp2_with fail
  refine (dbytes_any 9 (by omega) hXa.out (hG.ext P4.out.old) hD).mono ?_
  rintro e w5 ⟨rfl, hs5⟩
  have P5 : Hid (Pl2 w (.pointer (some a)) (.pointer (some b)) (gB 9 Xa) Xb w5) := hst.out _ _ hs5
  rw [hU.out]
  clear hst hs5 hD P4
  obtain ⟨F, hD, -, hst⟩ := P5.out.stepB
  replace hst : Hid _ := hst
  go_wp2_with fail
  refine (dbytes_any 9 (by omega) hXb.out (hG.ext P5.out.old) hD).mono ?_
  rintro e w6 ⟨rfl, hs6⟩
  have HE6 : Hid (Ext w w6) := (hst.out _ _ hs6).old
  rw [HUV.out]
  clear hst hs6 hD P5
  have hUU : (U.toList == U.toList) = true := beq_self_eq_true _
  have hSS : (S.toList == S.toList) = true := beq_self_eq_true _
  have hext : T.extract 0 n = S := e3.out.symm
  have hsn : S.size = n := HSn.out
  have htm : T.size = m := HTm.out
  have hn0 : (0 : Int) ≤ (n : Int) := by omega
  have hn1 : (n : Int) ≤ (m : Int) := by have := hnm.out; omega
  have hn2 : n ≤ m := hnm.out.2.1
  clear h2 h3 h4
  go_wp2_with fail
  refine (HA.out _ HE6.out).mono ?_
  rintro e w7 ⟨rfl, HX⟩
  have HE7 : Hid (Ext w w7) := HE6.out.trans HX
  clear HX
  go_wp2
  go_ret
  exact ⟨rfl, HE7.out⟩
end Go.Proofs.YtpfeakdpckmcgaaDoor

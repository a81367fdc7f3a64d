/-
  sandglassref29.Bytes, called; nothing old is turned.
-/
import Derived.Test.YtpfeakdpckmcgaaDoorRgA
namespace Go.Proofs.YtpfeakdpckmcgaaDoor
set_option maxRecDepth 10000
open Go.RowKit
def szOf : Value → Nat
  | .string s => s.size
  | _ => 0
theorem szOf_string (s : ByteArray) : szOf (.string s) = s.size := rfl
set_option maxHeartbeats 1000000 in
theorem rbytes_bad (K V : ByteArray) (A n : Int) (hn : n < 0 ∨ 4096 < n) (w : World) :
    Calls Tryd.prog 12 #[gdV K V A, .int .i64 n] w fun e w' => e = .returned (.tuple #[gdV K V A, .string ⟨#[]⟩, .int .i64 1]) ∧ Ext w w' := by
  unfold gdV
  rcases hn with h | h
  · have hg : decide (n < 0) = true := decide_eq_true h
    go_enter Tryd.func12, Tryd.ntmps12
    go_wp2
    refine bodyPost_ret (v := .tuple #[.agg #[.string K, .string V, .int .i64 A], .string ⟨#[]⟩, .int .i64 1]) (by simp [results, Tryd.results12, go_sem]) rfl ⟨rfl, ?_⟩
    exact ((Ext.refl _).alloc _).alloc _
  · have h0 : ¬ n < 0 := by omega
    have hg : decide (n < 0) = false := decide_eq_false h0
    have hg2 : decide (4096 < n) = true := decide_eq_true h
    go_enter Tryd.func12, Tryd.ntmps12
    go_wp2
    refine bodyPost_ret (v := .tuple #[.agg #[.string K, .string V, .int .i64 A], .string ⟨#[]⟩, .int .i64 1]) (by simp [results, Tryd.results12, go_sem]) rfl ⟨rfl, ?_⟩
    exact ((Ext.refl _).alloc _).alloc _
set_option maxHeartbeats 1000000 in
theorem rbytes_any (K V : ByteArray) (A n : Nat) (hK : K.size = 32) (hV : V.size = 32) (hn : n ≤ 4096) (hA : A ≤ 100000000) (w : World) :
    Calls Tryd.prog 12 #[gdV K V A, .int .i64 (n : Int)] w fun e w' => e = .returned (.tuple #[gdV (bK K V n) (bV K V n) ((A + n : Nat) : Int), .string (bO K V n), .int .i64 0]) ∧ Ext w w' := by
  have Z0 : Hid (GB3 ((w.alloc (.cells #[.string K, .string V, .int .i64 A] 28)).alloc (.cells #[.string ⟨#[]⟩, .string ⟨#[]⟩, .int .i64 0] 28)) (w.heap.size + 1) ⟨#[]⟩ ⟨#[]⟩ 0) := by
    have := GB3.new (w.alloc (.cells #[.string K, .string V, .int .i64 A] 28)) ⟨#[]⟩ ⟨#[]⟩ 0 28
    rw [World.size_alloc] at this
    exact this
  have R0 : Hid (GB3 ((w.alloc (.cells #[.string K, .string V, .int .i64 A] 28)).alloc (.cells #[.string ⟨#[]⟩, .string ⟨#[]⟩, .int .i64 0] 28)) w.heap.size K V A) := (GB3.new _ _ _ _ _).ext ((Ext.refl _).alloc _)
  have HE0 : Hid (Ext w ((w.alloc (.cells #[.string K, .string V, .int .i64 A] 28)).alloc (.cells #[.string ⟨#[]⟩, .string ⟨#[]⟩, .int .i64 0] 28))) := ((Ext.refl _).alloc _).alloc _
  have hG0 : SizeLe w w.heap.size := Nat.le_refl _
  have hG : SizeLe w (w.heap.size + 1) := Nat.le_succ _
  have h0 : ¬ (n : Int) < 0 := by omega
  have h1 : ¬ (4096 : Int) < (n : Int) := by omega
  have h2 : decide ((4096 : Int) < (n : Int)) = false := decide_eq_false h1
  have HKs : Hid (K.size < 4294967296) := (by omega : K.size < 4294967296)
  unfold gdV
  go_enter Tryd.func12, Tryd.ntmps12
  go_wp2_with fail
  generalize (w.alloc (.cells #[.string K, .string V, .int .i64 A] 28)).alloc (.cells #[.string ⟨#[]⟩, .string ⟨#[]⟩, .int .i64 0] 28) = W0 at *
  obtain ⟨c, hc⟩ : ∃ c, w.heap.size + 1 = c := ⟨_, rfl⟩
  have hcb : w.heap.size ≠ c := by omega
  rw [hc] at Z0 hG ⊢
  clear hc
  generalize w.heap.size = b at *
  go_loopw [7] (fun u7 wr => ∃ (k : Nat), 32 * k ≤ n + 31 ∧ u7 = .string (gO K V k) ∧ Hid (GB3 wr b K (gV K V k) A) ∧ Hid (GB3 wr c ⟨#[]⟩ ⟨#[]⟩ 0) ∧ Hid (Ext w wr)) (fun u7 _ => 5000 - szOf u7)
  case atStart => exact ⟨0, by omega, rfl, R0, Z0, HE0⟩
  case round =>
    clear R0 Z0 HE0
    obtain ⟨k, hkn, rfl, R, Z, HE⟩ := hrel
    have hsO := gO_size K V k
    by_cases hlt : 32 * k < n
    · have HN : Hid (macS K (gV K V k) = gV K V (k + 1)) := rfl
      have HO : Hid (gO K V k ++ gV K V (k + 1) = gO K V (k + 1)) := rfl
      have HVk : Hid ((gV K V k).size < 4294967000) := by show _ < _; rw [gV_size hV]; omega
      have hsN : (gV K V (k + 1)).size = 32 := gV_size hV _
      have HSO : Hid ((gO K V (k + 1)).size = 32 * (k + 1)) := gO_size _ _ _
      obtain ⟨y1, hy1⟩ : ∃ y, Hid (gV K V (k + 1) = y) := ⟨_, rfl⟩
      obtain ⟨o1, ho1⟩ : ∃ y, Hid (gO K V (k + 1) = y) := ⟨_, rfl⟩
      rw [hy1.out] at HN HO hsN
      rw [ho1.out] at HO HSO
      generalize gV K V k = y0 at *
      generalize gO K V k = o0 at *
      have hl1 : (o0.size : Int) < (n : Int) := by rw [hsO]; omega
      have hc1 : ¬ 9223372036854775807 < o0.size + y1.size := by omega
      have HM : Hid (5000 - szOf (.string (o0 ++ y1)) < 5000 - szOf (.string o0)) := by
        show _ < _
        rw [HO.out, szOf_string, szOf_string, HSO.out, hsO]
        omega
      obtain ⟨r0, ⟨c0, c1, c2⟩, f0, f1, f2⟩ := id R.out
      go_wp2_with fail
      refine (rmac_any _ _ HKs.out HVk.out _).mono ?_
      rintro e w1 ⟨rfl, HX⟩
      rw [HN.out]
      clear r0 c0 c1 c2 f0 f1 f2
      have R1 := R.out.ext HX
      have R1' : Hid (GB3 (w1.setCell ⟨b, 1, none⟩ (.string y1)) b K y1 A) := R1.setV y1
      have Z1' : Hid (GB3 (w1.setCell ⟨b, 1, none⟩ (.string y1)) c ⟨#[]⟩ ⟨#[]⟩ 0) := (Z.out.ext HX).other hcb
      have HE1 : Hid (Ext w (w1.setCell ⟨b, 1, none⟩ (.string y1))) := Ext.st hG0 (HE.out.trans HX)
      clear HX R Z HE
      obtain ⟨r0, ⟨c0, c1, c2⟩, f0, f1, f2⟩ := R1
      go_wp2
      go_roundw
      case rel => exact ⟨k + 1, by omega, by rw [HO.out, ho1.out], by rw [hy1.out]; exact R1', Z1', HE1⟩
      case measure => exact HM.out
    · have hl1 : ¬ ((gO K V k).size : Int) < (n : Int) := by rw [hsO]; omega
      have HU : Hid (∀ W, Calls Tryd.prog 24 #[gdV K (gV K V k) A, .string ⟨#[]⟩] W fun e w' => e = .returned (gdV (upK K (gV K V k) ⟨#[]⟩) (upV K (gV K V k) ⟨#[]⟩) A) ∧ Ext W w') := fun W => rupdate_any K (gV K V k) ⟨#[]⟩ A hK (gV_size hV k) (Nat.zero_le _) W
      have hke : k = stp n := by unfold stp; omega
      have HK2 : Hid (upK K (gV K V k) ⟨#[]⟩ = bK K V n) := by rw [hke]; exact (rfl : bK K V n = bK K V n)
      have HV2 : Hid (upV K (gV K V k) ⟨#[]⟩ = bV K V n) := by rw [hke]; exact (rfl : bV K V n = bV K V n)
      have HB2 : Hid ((gO K V k).extract 0 n = bO K V n) := by rw [hke]; exact (rfl : bO K V n = bO K V n)
      have hnz : n ≤ (gO K V k).size := by rw [hsO]; omega
      have hw : IntKind.i64.wrap ((A : Int) + (n : Int)) = ((A + n : Nat) : Int) := by rw [IntKind.wrap_i64]; omega
      have hn0 : (0 : Int) ≤ (n : Int) := by omega
      have hn1 : (n : Int) ≤ ((gO K V k).size : Int) := by omega
      obtain ⟨K2, hK2⟩ : ∃ x, Hid (bK K V n = x) := ⟨_, rfl⟩
      obtain ⟨V2, hV2⟩ : ∃ x, Hid (bV K V n = x) := ⟨_, rfl⟩
      obtain ⟨O2, hO2⟩ : ∃ x, Hid (bO K V n = x) := ⟨_, rfl⟩
      rw [hK2.out] at HK2
      rw [hV2.out] at HV2
      rw [hO2.out] at HB2
      clear hke hsO hlt
      generalize gV K V k = y0 at *
      generalize gO K V k = o0 at *
      rw [HK2.out, HV2.out] at HU
      unfold gdV at HU
      obtain ⟨r0, ⟨c0, c1, c2⟩, f0, f1, f2⟩ := id R.out
      go_wp2_with fail
      refine (HU.out _).mono ?_
      rintro e w1 ⟨rfl, HX⟩
      clear r0 c0 c1 c2 f0 f1 f2
      have R1 := R.out.ext HX
      have Z1 := Z.out.ext HX
      have HE1 : Hid (Ext w w1) := HE.out.trans HX
      have R2 := ((R1.setK K2).setV V2).setA A
      clear HX R Z HE
      obtain ⟨r0, ⟨c0, c1, c2⟩, f0, f1, f2⟩ := R1
      go_upto_region 9 with fail
      have R3 : Hid (GB3 ((((w1.setCell ⟨b, 0, none⟩ (.string K2)).setCell ⟨b, 1, none⟩ (.string V2)).setCell ⟨b, 2, none⟩ (.int .i64 A)).setCell ⟨b, 2, none⟩ (.int .i64 ((A : Int) + (n : Int)))) b K2 V2 ((A : Int) + (n : Int))) := R2.setA _
      have Z3 : Hid (GB3 ((((w1.setCell ⟨b, 0, none⟩ (.string K2)).setCell ⟨b, 1, none⟩ (.string V2)).setCell ⟨b, 2, none⟩ (.int .i64 A)).setCell ⟨b, 2, none⟩ (.int .i64 ((A : Int) + (n : Int)))) c ⟨#[]⟩ ⟨#[]⟩ 0) := (((Z1.other hcb).other hcb).other hcb).other hcb
      have HE3 : Hid (Ext w ((((w1.setCell ⟨b, 0, none⟩ (.string K2)).setCell ⟨b, 1, none⟩ (.string V2)).setCell ⟨b, 2, none⟩ (.int .i64 A)).setCell ⟨b, 2, none⟩ (.int .i64 ((A : Int) + (n : Int))))) := Ext.st hG0 (Ext.st hG0 (Ext.st hG0 (Ext.st hG0 HE1.out)))
      clear R2 Z1 HE1 r0 c0 c1 c2 f0 f1 f2
      generalize (((w1.setCell ⟨b, 0, none⟩ (.string K2)).setCell ⟨b, 1, none⟩ (.string V2)).setCell ⟨b, 2, none⟩ (.int .i64 A)).setCell ⟨b, 2, none⟩ (.int .i64 ((A : Int) + (n : Int))) = W3 at *
      obtain ⟨r0, ⟨c0, c1, c2⟩, f0, f1, f2⟩ := R3.out
      obtain ⟨z0, ⟨d0, d1, d2⟩, g0, g1, g2⟩ := Z3.out
      go_region
      go_wp2
      refine bodyPost_ret (v := .tuple #[.agg #[.string K2, .string V2, .int .i64 ((A : Int) + (n : Int))], .string O2, .int .i64 0]) (by simp [results, Tryd.results12, go_sem, d0, d1, d2, HB2.out]) rfl ⟨by rw [hK2.out, hV2.out, hO2.out, Int.natCast_add], ?_⟩
      exact (Ext.st hG (Ext.st hG (Ext.st hG HE3.out))).drew
end Go.Proofs.YtpfeakdpckmcgaaDoor

/-
 sandglassref21.Ahead, called.
-/
import Derived.Test.YtmanacbdldfmfaaRm
namespace Go.Proofs.Ytmanacbdldfmfaa
set_option maxRecDepth 10000
open Go.RowKit
theorem hasR_step {L : List Vt} {j : Nat} {m : Vt} (h : L[j]? = some m) (r p : Int) : hasR (L.take (j + 1)) r p = (hasR (L.take j) r p || decide (m.rd = r ∧ m.fr = p)) := by
 rw [List.take_add_one, h]
 unfold hasR
 simp
set_option maxRecDepth 10000 in
set_option maxHeartbeats 8000000 in
theorem rahead_any {N T : Nat} (hN : N ≤ 7) (a : Option Addr) (cap : Nat) (L : List Vt) (q : Int) (hn : L.length ≤ 1000) (w : World) (hL : WsIs w (.slice a L.length cap) L) :
  Calls Try.prog 50 #[rV N T (.slice a L.length cap), .int .i64 q] w fun e w' => e = .returned (.int .i64 (aheadV N T L q)) ∧ Ext w w' := by
 have HL : Hid (WsIs w (.slice a L.length cap) L) := hL
 have HN7 : Hid (N ≤ 7) := hN
 obtain ⟨n, HN⟩ : ∃ n, Hid (L.length = n) := ⟨_, rfl⟩
 rw [HN.out] at HL hn ⊢
 have Hn : Hid (n ≤ 1000) := hn
 have HE0 : Hid (Ext w (w.alloc (.cells #[.int .i64 (N : Int), .int .i64 (T : Int), .slice a n cap] 32))) := (Ext.refl w).alloc _
 have HBx : Hid (∀ W, Ext (w.alloc (.cells #[.int .i64 (N : Int), .int .i64 (T : Int), .slice a n cap] 32)) W → W.cell? ⟨w.heap.size, 0, none⟩ = some (.int .i64 (N : Int)) ∧ W.cell? ⟨w.heap.size, 1, none⟩ = some (.int .i64 (T : Int)) ∧ W.cell? ⟨w.heap.size, 2, none⟩ = some (.slice a n cap) ∧ w.heap.size < W.heap.size) := fun W hW => rbox hW
 obtain ⟨f, Hf⟩ : ∃ f : Nat → Nat, Hid (f = fun r : Nat => nds L (r : Int) N) := ⟨_, rfl⟩
 have HA : Hid (aheadV N T L q = ahd f T q 64) := by show _ = _; rw [Hf.out]; rfl
 rw [HA.out]
 clear hN hn hL
 go_enter Try.func50, Try.ntmps50
 go_wp2
 obtain ⟨W0, hW0⟩ : ∃ W0, w.alloc (.cells #[.int .i64 (N : Int), .int .i64 (T : Int), .slice a n cap] 32) = W0 := ⟨_, rfl⟩
 rw [hW0] at HE0 HBx ⊢
 have HW0 : Hid (Ext W0 W0) := Ext.refl W0
 clear hW0
 go_loopw [5] (fun u5 wr => ∃ (i : Nat) (z : Int), i ≤ 64 ∧ u5 = .int .i64 z ∧ Hid (z + 1 = (i : Int)) ∧ Hid (Ext W0 wr) ∧ Hid (ahd f T q 64 = ahd f T q i)) (fun u5 _ => (intOf u5 + 1).toNat)
 case atStart => exact ⟨64, 63, Nat.le_refl _, rfl, rfl, HW0, rfl⟩
 case round =>
  obtain ⟨i, z, hi6, rfl, Hz, HE, HR⟩ := hrel
  cases i with
  | zero =>
   have hz : z = -1 := by have := Hz.out; omega
   have hz2 : decide ((0 : Int) ≤ z) = false := decide_eq_false (by omega)
   have HR2 : Hid (ahd f T q 64 = -1) := HR.out
   clear hz HR
   go_wp2
   go_ret
   exact ⟨by rw [HR2.out]; rfl, HE0.out.trans HE.out⟩
  | succ r =>
   have hzr : z = (r : Int) := by have := Hz.out; omega
   subst hzr
   have hz0 : (0 : Int) ≤ (r : Int) := by omega
   by_cases hq : q < (r : Int)
   ·have Hr6 : Hid (r + 1 ≤ 64) := hi6
    have Hfr : Hid (f r = nds L (r : Int) N) := by show _ = _; rw [Hf.out]
    clear hi6 Hz
    go_wp2_with fail
    rename World => W1
    go_loopw [6, 7] (fun u6 u7 wr => ∃ i c : Nat, i ≤ N + 1 ∧ u7 = .int .i64 i ∧ u6 = .int .i64 c ∧ Hid (1 ≤ i ∧ c = nds L (r : Int) (i - 1)) ∧ Hid (Ext W0 wr)) (fun _ u7 _ => N + 1 - (intOf u7).toNat)
    case atStart => exact ⟨1, 0, by omega, rfl, rfl, ⟨Nat.le_refl _, rfl⟩, HE⟩
    case round =>
     obtain ⟨i, c, hi, rfl, rfl, Hc, HE2⟩ := hrel
     obtain ⟨c0, c1, c2, hlt0⟩ := HBx.out _ HE2.out
     by_cases hlt : (i : Int) ≤ (N : Int)
     ·have qw : IntKind.i64.wrap ((i : Int) + 1) = (i : Int) + 1 := by have := HN7.out; rw [IntKind.wrap_i64]; omega
      have cw : IntKind.i64.wrap ((c : Int) + 1) = (c : Int) + 1 := by
       have h1 := nds_le L (r : Int) (i - 1)
       obtain ⟨_, e⟩ := Hc.out
       have := HN7.out
       rw [IntKind.wrap_i64]; omega
      have Hi : Hid (i ≤ N) := by show _ ≤ _; omega
      have Hm : Hid (∀ x : Int, x = (i : Int) + 1 → N + 1 - (intOf (.int .i64 x)).toNat < N + 1 - (intOf (.int .i64 (i : Int))).toNat) := fun x e => by subst e; simp [intOf]; omega
      have Hs : Hid (nds L (r : Int) i = c + if hasR L (r : Int) (i : Int) then 1 else 0) := by
       obtain ⟨h1, e⟩ := Hc.out
       obtain ⟨j, rfl⟩ : ∃ j, i = j + 1 := ⟨i - 1, by omega⟩
       show nds L (r : Int) j + _ = _
       rw [e, show ((j + 1 : Nat) : Int) = (j : Int) + 1 from by omega]
       rfl
      clear hi
      go_wp2_with fail
      rename World => W2
      clear c0 c1 c2 hlt0
      go_loopw [8, 9] (fun u8 u9 wr => ∃ j : Nat, j ≤ n ∧ u9 = .int .i64 j ∧ u8 = .bool (hasR (L.take j) (r : Int) (i : Int)) ∧ Hid (Ext W0 wr)) (fun _ u9 _ => n - (intOf u9).toNat)
      case atStart => exact ⟨0, Nat.zero_le _, rfl, rfl, HE2⟩
      case round =>
       obtain ⟨j, hj, rfl, rfl, HE3⟩ := hrel
       obtain ⟨c0, c1, c2, hlt0⟩ := HBx.out _ HE3.out
       by_cases hlj : j < n
       ·obtain ⟨p1, p0, pw⟩ := lp_nums j n hlj (by have := Hn.out; omega)
        obtain ⟨m, hm⟩ : ∃ m, Hid (L[j]? = some m) := ⟨L[j]'(by rw [HN.out]; exact hlj), List.getElem?_eq_getElem _⟩
        have HL2 : WsIs wr (.slice a L.length cap) L := by rw [HN.out]; exact HL.out.ext (HE0.out.trans HE3.out)
        obtain ⟨g, o, rfl, hbl, hd0, hd1, hd2, hd3, hd4⟩ := HL2.get hm.out
        clear HL2 hd0 hd3 hd4
        have HS : Hid (hasR (L.take (j + 1)) (r : Int) (i : Int) = (hasR (L.take j) (r : Int) (i : Int) || decide (m.rd = (r : Int) ∧ m.fr = (i : Int)))) := hasR_step hm.out _ _
        generalize hasR (L.take j) (r : Int) (i : Int) = th at *
        cases th with
        | true =>
         have HS2 : Hid (hasR (L.take (j + 1)) (r : Int) (i : Int) = true) := HS.out
         go_wp2
         go_roundw
         case rel => exact ⟨j + 1, hlj, by push_cast; rfl, by rw [HS2.out], HE3⟩
         case measure => exact lp_meas hlj
        | false =>
         by_cases h1 : m.rd = (r : Int)
         ·by_cases h2 : m.fr = (i : Int)
          ·have HS2 : Hid (hasR (L.take (j + 1)) (r : Int) (i : Int) = true) := by show _ = _; rw [HS.out, decide_eq_true ⟨h1, h2⟩]; rfl
           have b1 : (m.rd == (r : Int)) = true := by simpa using h1
           have b2 : (m.fr == (i : Int)) = true := by simpa using h2
           clear h1 h2 HS
           go_wp2
           go_roundw
           case rel => exact ⟨j + 1, hlj, by push_cast; rfl, by rw [HS2.out], HE3⟩
           case measure => exact lp_meas hlj
          ·have HS2 : Hid (hasR (L.take (j + 1)) (r : Int) (i : Int) = false) := by show _ = _; rw [HS.out, decide_eq_false (fun z => h2 z.2)]; rfl
           have b1 : (m.rd == (r : Int)) = true := by simpa using h1
           have b2 : (m.fr == (i : Int)) = false := by simpa using h2
           clear h1 h2 HS
           go_wp2
           go_roundw
           case rel => exact ⟨j + 1, hlj, by push_cast; rfl, by rw [HS2.out], HE3⟩
           case measure => exact lp_meas hlj
         ·have HS2 : Hid (hasR (L.take (j + 1)) (r : Int) (i : Int) = false) := by show _ = _; rw [HS.out, decide_eq_false (fun z => h1 z.1)]; rfl
          have b1 : (m.rd == (r : Int)) = false := by simpa using h1
          clear h1 HS
          go_wp2
          go_roundw
          case rel => exact ⟨j + 1, hlj, by push_cast; rfl, by rw [HS2.out], HE3⟩
          case measure => exact lp_meas hlj
       ·obtain rfl : j = n := by omega
        have hnl : ¬ (j : Int) < (j : Int) := by omega
        have HF : Hid (L.take j = L) := List.take_of_length_le (by rw [HN.out]; exact Nat.le_refl _)
        rw [HF.out]
        cases hth : hasR L (r : Int) (i : Int) with
        | true =>
         have Hs2 : Hid (nds L (r : Int) i = c + 1) := by show _ = _; rw [Hs.out, hth]; rfl
         clear hth Hs
         go_wp2
         go_roundw
         case rel => exact ⟨i + 1, c + 1, by have := Hi.out; omega, by push_cast; rfl, by push_cast; rfl, ⟨by omega, Hs2.out.symm⟩, HE3⟩
         case measure => exact Hm.out _ rfl
        | false =>
         have Hs2 : Hid (nds L (r : Int) i = c) := by show _ = _; rw [Hs.out, hth]; rfl
         clear hth Hs
         go_wp2
         go_roundw
         case rel => exact ⟨i + 1, c, by have := Hi.out; omega, by push_cast; rfl, rfl, ⟨by omega, Hs2.out.symm⟩, HE3⟩
         case measure => exact Hm.out _ rfl
     ·have Hc2 : Hid (c = f r) := by
       obtain ⟨_, e⟩ := Hc.out
       show _ = _
       rw [e, Hfr.out]
       congr 1
       omega
      have qw : IntKind.i64.wrap ((r : Int) - 1) = (r : Int) - 1 := by have := Hr6.out; rw [IntKind.wrap_i64]; omega
      have HM : Hid (intOf (.int .i64 ((r : Int) - 1)) + 1 = (r : Int)) := by show (r : Int) - 1 + 1 = _; omega
      have HM2 : Hid (intOf (.int .i64 (r : Int)) + 1 = (r : Int) + 1) := rfl
      by_cases ht : (T : Int) < (c : Int)
      ·have HR2 : Hid (ahd f T q 64 = (r : Int)) := by
        show _ = _
        rw [HR.out]
        show (if q < (r : Int) then _ else _) = _
        rw [if_pos hq, if_pos (by rw [← Hc2.out]; omega)]
       clear HR Hc
       go_wp2
       go_ret
       exact ⟨by rw [HR2.out]; rfl, HE0.out.trans HE2.out⟩
      ·have HR2 : Hid (ahd f T q 64 = ahd f T q r) := by
        show _ = _
        rw [HR.out]
        show (if q < (r : Int) then _ else _) = _
        rw [if_pos hq, if_neg (by rw [← Hc2.out]; omega)]
       clear HR Hc
       go_wp2
       go_roundw
       case rel => exact ⟨r, (r : Int) - 1, by have := Hr6.out; omega, rfl, by show (r : Int) - 1 + 1 = _; omega, HE2, HR2⟩
       case measure => rw [HM.out, HM2.out]; omega
   ·have hq2 : decide (q < (r : Int)) = false := decide_eq_false hq
    have HR2 : Hid (ahd f T q 64 = -1) := by
     show _ = _
     rw [HR.out]
     exact if_neg hq
    clear hq HR
    go_wp2
    go_ret
    exact ⟨by rw [HR2.out]; rfl, HE0.out.trans HE.out⟩
end Go.Proofs.Ytmanacbdldfmfaa

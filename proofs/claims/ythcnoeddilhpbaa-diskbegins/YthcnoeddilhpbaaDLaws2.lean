/-
  DiskBegins, DiskKept, called: true; nothing old is turned.
-/
import Derived.Test.YthcnoeddilhpbaaDLaws
namespace Go.Proofs.Ythcnoeddilhpbaa
open Go.RowKit
/-- The round of 'keep = keep<<1 | 1'. -/
theorem ones_step (i : Nat) (h : i < 64) : IntKind.u64.wrap (((2 ^ i - 1 : Nat) : Int) * 2) = ((2 * (2 ^ i - 1) : Nat) : Int) ∧ bits .or .u64 ((2 * (2 ^ i - 1) : Nat) : Int) 1 = ((2 ^ (i + 1) - 1 : Nat) : Int) := by
  have hp : 2 ^ i ≤ 2 ^ 63 := Nat.pow_le_pow_right (by decide) (by omega)
  have h1 : 1 ≤ 2 ^ i := Nat.one_le_two_pow
  have hz : 2 ^ (i + 1) - 1 = 2 * (2 ^ i - 1) + 1 := by rw [Nat.pow_succ]; omega
  rw [hz]
  generalize 2 ^ i - 1 = z at *
  have hz2 : z < 2 ^ 63 := by omega
  refine ⟨by rw [IntKind.wrap_u64]; omega, ?_⟩
  have := u64_or_nat (2 * z) 1 (by omega) (by decide)
  rw [show (1 : Int) = ((1 : Nat) : Int) from rfl, this]
  congr 1
  exact nat_join 1 (2 * z) 1 (by omega) (by omega)
theorem ones_lt (i : Nat) (h : i ≤ 64) : 2 ^ i - 1 < 18446744073709551616 := by
  have hp : 2 ^ i ≤ 2 ^ 64 := Nat.pow_le_pow_right (by decide) h
  omega
theorem begins_nums (T : ByteArray) (y c : Nat) (h : dOk T y) (hc : c ≤ 64) : ∃ (T2 : ByteArray) (y2 : Nat), (dDo T y 3 ⟨#[]⟩ (2 ^ c - 1)).1 = T2 ∧ (dDo T y 3 ⟨#[]⟩ (2 ^ c - 1)).2.1 = y2 ∧ T2.size ≤ T.size ∧ T2 = T.extract 0 T2.size := by
  have e := dcrash_begins h c hc
  refine ⟨_, _, rfl, rfl, ?_, e⟩
  show (dcrash T (2 ^ c - 1) y).size ≤ _
  have := congrArg ByteArray.size e
  rw [ByteArray.size_extract] at this
  omega
set_option maxHeartbeats 2000000 in
theorem diskBegins_any (v : Value) (n : Nat) (k : Nat → Int) (x : Nat → ByteArray) (K : Nat → Nat) (hKs : ∀ i, i < n → K i < 18446744073709551616) (c : Int) (w : World) (hL : ActsIs w v n k x K) :
    Calls Try.prog 6 #[v, .int .i64 c] w fun e w' => e = .returned (.bool true) ∧ Ext w w' := by
  have HL : Hid (ActsIs w v n k x K) := hL
  obtain ⟨a, cap, rfl, _⟩ := hL
  have HK : Hid (∀ i, i < n → K i < 18446744073709551616) := hKs
  have HF : Hid (Calls Try.prog 8 #[.slice a n cap] w fun e w' => FewP x n w e w') := few_any _ n k x K w HL.out
  clear hKs
  go_enter Try.func6, Try.ntmps6
  go_wp2_with fail
  refine HF.out.mono ?_
  rintro e w1 ⟨b, rfl, hb, HX⟩
  have HE1 : Hid (Ext w w1) := HX
  clear HX HF
  cases b with
  | false =>
    go_wp2_with fail
    refine (awake_any _).mono ?_
    rintro e w2 ⟨rfl, HX⟩
    have HE2 : Hid (Ext w w2) := HE1.out.trans HX
    clear HX
    go_wp2
    go_ret
    exact ⟨rfl, HE2.out⟩
  | true =>
    by_cases hc0 : c < 0
    · go_wp2_with fail
      refine (awake_any _).mono ?_
      rintro e w2 ⟨rfl, HX⟩
      have HE2 : Hid (Ext w w2) := HE1.out.trans HX
      clear HX
      go_wp2
      go_ret
      exact ⟨rfl, HE2.out⟩
    · by_cases hc1 : 64 < c
      · go_wp2_with fail
        refine (awake_any _).mono ?_
        rintro e w2 ⟨rfl, HX⟩
        have HE2 : Hid (Ext w w2) := HE1.out.trans HX
        clear HX
        go_wp2
        go_ret
        exact ⟨rfl, HE2.out⟩
      · obtain ⟨m, rfl⟩ : ∃ m : Nat, c = (m : Int) := ⟨c.toNat, by omega⟩
        have Hm : Hid (m ≤ 64) := by show _ ≤ _; omega
        have Hn : Hid (n ≤ 100000) := by show _ ≤ _; have := (hb rfl).1; omega
        clear hb
        go_wp2_with fail
        refine (pnew_any w w1 HE1.out).mono ?_
        rintro e w2 ⟨da, rfl, HP, HX⟩
        have HP0 : Hid (PlD w (.pointer (some da)) (dPl k x K 0).1 (dPl k x K 0).2 w2) := HP
        clear HP HX HE1
        go_wp2_with fail
        go_loopw [6] (fun u6 wr => ∃ j : Nat, j ≤ n ∧ u6 = .int .i64 j ∧ Hid (PlD w (.pointer (some da)) (dPl k x K j).1 (dPl k x K j).2 wr)) (fun u6 _ => n - (intOf u6).toNat)
        case atStart => exact ⟨0, Nat.zero_le _, rfl, HP0⟩
        case round =>
          obtain ⟨j, hj, rfl, HP⟩ := hrel
          clear HP0
          by_cases hlt : j < n
          · obtain ⟨q1, q0, qw⟩ := lp_nums j n hlt Hn.out
            obtain ⟨g, off, rfl, hbl, hd0, hd1, hd2⟩ := (HL.out.ext HP.out.old).get hlt
            have HD : Hid (∀ W, PlD w (.pointer (some da)) (dPl k x K j).1 (dPl k x K j).2 W → Calls Try.prog 12 #[.pointer (some da), .agg #[.int .i64 (k j), .string (x j), .int .u64 (K j : Int)]] W fun e w' => e = .returned (.int .i64 (dDo (dPl k x K j).1 (dPl k x K j).2 (k j) (x j) (K j)).2.2) ∧ PlD w (.pointer (some da)) (dPl k x K (j + 1)).1 (dPl k x K (j + 1)).2 w') := fun W h => pdo_any (k j) (x j) (K j) (dPl_ok k x K j) (HK.out j hlt) h
            go_wp2_with fail
            refine (HD.out _ HP.out).mono ?_
            rintro e w3 ⟨rfl, HPn⟩
            have HP3 : Hid _ := HPn
            clear HPn HP HD
            go_wp2
            go_roundw
            case rel => exact ⟨j + 1, hlt, by push_cast; rfl, HP3⟩
            case measure => exact lp_meas hlt
          · have hnl : ¬ (j : Int) < (n : Int) := by omega
            have HOk : Hid (dOk (dPl k x K j).1 (dPl k x K j).2) := dPl_ok k x K j
            generalize (dPl k x K j).1 = T at *
            generalize (dPl k x K j).2 = y at *
            go_wp2_with fail
            refine (ptext_any HP.out).mono ?_
            rintro e w3 ⟨rfl, HX⟩
            have HP3 : Hid (PlD w (.pointer (some da)) T y w3) := HP.out.ext HX
            clear HP HX
            go_wp2_with fail
            go_loopw [8, 9] (fun u8 u9 wr => ∃ i : Nat, i ≤ m ∧ u9 = .int .i64 i ∧ u8 = .int .u64 ((2 ^ i - 1 : Nat) : Int) ∧ Hid (PlD w (.pointer (some da)) T y wr)) (fun _ u9 _ => m - (intOf u9).toNat)
            case atStart => exact ⟨0, Nat.zero_le _, rfl, rfl, HP3⟩
            case round =>
              obtain ⟨i, hi, rfl, rfl, HP⟩ := hrel
              clear HP3
              by_cases hlm : i < m
              · have p1 : (i : Int) < (m : Int) := by omega
                have p2 : IntKind.i64.wrap ((i : Int) + 1) = (i : Int) + 1 := by have := Hm.out; rw [IntKind.wrap_i64]; omega
                obtain ⟨p3, p4⟩ := ones_step i (by have := Hm.out; omega)
                generalize 2 * (2 ^ i - 1) = z at *
                generalize 2 ^ i - 1 = z0 at *
                obtain ⟨z1, hz1⟩ : ∃ z1, 2 ^ (i + 1) - 1 = z1 := ⟨_, rfl⟩
                have Hz1 : Hid (2 ^ (i + 1) - 1 = z1) := hz1
                rw [hz1] at p4
                clear hz1
                go_wp2
                go_roundw
                case rel => exact ⟨i + 1, hlm, by push_cast; rfl, by rw [Hz1.out], HP⟩
                case measure => exact lp_meas hlm
              · have him : i = m := by omega
                subst him
                have hnm : ¬ (i : Int) < (i : Int) := by omega
                obtain ⟨T2, y2, e1, e2, n1, n2⟩ := begins_nums T y i HOk.out Hm.out
                have C1 : Hid (∀ W, PlD w (.pointer (some da)) T y W → Calls Try.prog 12 #[.pointer (some da), .agg #[.int .i64 3, .string ⟨#[]⟩, .int .u64 ((2 ^ i - 1 : Nat) : Int)]] W fun e w' => e = .returned (.int .i64 (dDo T y 3 ⟨#[]⟩ (2 ^ i - 1)).2.2) ∧ PlD w (.pointer (some da)) T2 y2 w') := fun W h => by
                  have := pdo_any 3 ⟨#[]⟩ (2 ^ i - 1) HOk.out (ones_lt i Hm.out) h
                  rw [e1, e2] at this
                  exact this
                clear e1 e2
                generalize (dDo T y 3 ⟨#[]⟩ (2 ^ i - 1)).2.2 = r2 at *
                generalize 2 ^ i - 1 = z at *
                have m1 : (T2.size : Int) ≤ (T.size : Int) := by omega
                have m2 : (T2.toList == (T.extract 0 T2.size).toList) = true := by rw [← n2]; exact beq_self_eq_true _
                have m3 : (0 : Int) ≤ (T2.size : Int) := by omega
                clear n1 n2
                go_wp2_with fail
                refine (C1.out _ HP.out).mono ?_
                rintro e w4 ⟨rfl, HPn⟩
                have HP4 : Hid (PlD w (.pointer (some da)) T2 y2 w4) := HPn
                clear HP HPn C1
                go_wp2_with fail
                refine (ptext_any HP4.out).mono ?_
                rintro e w5 ⟨rfl, HX⟩
                have HP5 : Hid (PlD w (.pointer (some da)) T2 y2 w5) := HP4.out.ext HX
                clear HP4 HX
                go_wp2_with fail
                refine (awake_any _).mono ?_
                rintro e w6 ⟨rfl, HX⟩
                have HP6 : Hid (PlD w (.pointer (some da)) T2 y2 w6) := HP5.out.ext HX
                clear HP5 HX
                go_wp2
                go_ret
                exact ⟨rfl, HP6.out.old⟩
theorem kept_nums (T x : ByteArray) (y : Nat) (h : dOk T y) (hx : x.size ≤ 3000) : ∃ (T1 T2 : ByteArray) (y2 y3 : Nat), (dDo T y 2 ⟨#[]⟩ 0).1 = T ∧ (dDo T y 2 ⟨#[]⟩ 0).2.1 = T.size ∧ dOk T T.size ∧ (dDo T T.size 1 x 0).1 = T1 ∧ (dDo T T.size 1 x 0).2.1 = T.size ∧ dOk T1 T.size ∧ (dDo T1 T.size 3 ⟨#[]⟩ 18446744073709551615).1 = T1 ∧ (dDo T1 T.size 3 ⟨#[]⟩ 18446744073709551615).2.1 = y2 ∧ (dDo T1 T.size 3 ⟨#[]⟩ 0).1 = T2 ∧ (dDo T1 T.size 3 ⟨#[]⟩ 0).2.1 = y3 ∧ T.size ≤ T1.size ∧ T2 = T1.extract 0 T.size := by
  have h0 : dOk T T.size := ⟨Nat.le_refl _, h.2⟩
  have h1 := dDo_ok h0 1 x 0
  have e : (dDo T T.size 1 x 0).2.1 = T.size ∧ (dDo T T.size 1 x 0).1.size ≤ T.size + 3000 := by
    unfold dDo
    rw [if_pos rfl]
    split
    · exact ⟨rfl, by show T.size ≤ _; omega⟩
    · exact ⟨rfl, by show (T ++ x).size ≤ _; rw [ByteArray.size_append]; omega⟩
  rw [e.1] at h1
  have ha : dcrash (dDo T T.size 1 x 0).1 18446744073709551615 T.size = (dDo T T.size 1 x 0).1 := dcrash_all h1 _ fun i i1 i2 => by
    have := kept_ones T.size i 64 (by decide) i1
    rw [show (18446744073709551615 : Nat) = 2 ^ 64 - 1 from rfl, this]
    exact decide_eq_true (by have := e.2; omega)
  have hn := dcrash_none h1
  exact ⟨_, _, _, _, rfl, rfl, h0, rfl, e.1, h1, ha, rfl, rfl, rfl, h1.1, hn⟩
set_option maxHeartbeats 2000000 in
theorem diskKept_any (v : Value) (n : Nat) (k : Nat → Int) (x : Nat → ByteArray) (K : Nat → Nat) (hKs : ∀ i, i < n → K i < 18446744073709551616) (s : ByteArray) (_hs : s.size ≤ maxLen) (w : World) (hL : ActsIs w v n k x K) :
    Calls Try.prog 5 #[v, .string s] w fun e w' => e = .returned (.bool true) ∧ Ext w w' := by
  have HL : Hid (ActsIs w v n k x K) := hL
  obtain ⟨a, cap, rfl, _⟩ := hL
  have HK : Hid (∀ i, i < n → K i < 18446744073709551616) := hKs
  have HF : Hid (Calls Try.prog 8 #[.slice a n cap] w fun e w' => FewP x n w e w') := few_any _ n k x K w HL.out
  clear hKs
  go_enter Try.func5, Try.ntmps5
  go_wp2_with fail
  refine HF.out.mono ?_
  rintro e w1 ⟨b, rfl, hb, HX⟩
  have HE1 : Hid (Ext w w1) := HX
  clear HX HF
  cases b with
  | false =>
    go_wp2_with fail
    refine (awake_any _).mono ?_
    rintro e w2 ⟨rfl, HX⟩
    have HE2 : Hid (Ext w w2) := HE1.out.trans HX
    clear HX
    go_wp2
    go_ret
    exact ⟨rfl, HE2.out⟩
  | true =>
    by_cases hc0 : 3000 < s.size
    · have h3 : (3000 : Int) < (s.size : Int) := by omega
      go_wp2_with fail
      refine (awake_any _).mono ?_
      rintro e w2 ⟨rfl, HX⟩
      have HE2 : Hid (Ext w w2) := HE1.out.trans HX
      clear HX
      go_wp2
      go_ret
      exact ⟨rfl, HE2.out⟩
    · have h3 : ¬ (3000 : Int) < (s.size : Int) := by omega
      have Hn : Hid (n ≤ 100000) := by show _ ≤ _; have := (hb rfl).1; omega
      have Hs : Hid (s.size ≤ 3000) := by show _ ≤ _; omega
      clear hb hc0
      go_wp2_with fail
      refine (pnew_any w w1 HE1.out).mono ?_
      rintro e w2 ⟨da, rfl, HP, HX⟩
      have HPa : Hid (PlD w (.pointer (some da)) ⟨#[]⟩ 0 w2) := HP
      clear HP HX HE1
      go_wp2_with fail
      refine (pnew2_any HPa.out).mono ?_
      rintro e w3 ⟨db, rfl, HP⟩
      have HP0 : Hid (Pl2 w (.pointer (some da)) (.pointer (some db)) (dPl k x K 0).1 (dPl k x K 0).2 (dPl k x K 0).1 (dPl k x K 0).2 w3) := HP
      clear HP HPa
      go_wp2_with fail
      go_loopw [7] (fun u7 wr => ∃ j : Nat, j ≤ n ∧ u7 = .int .i64 j ∧ Hid (Pl2 w (.pointer (some da)) (.pointer (some db)) (dPl k x K j).1 (dPl k x K j).2 (dPl k x K j).1 (dPl k x K j).2 wr)) (fun u7 _ => n - (intOf u7).toNat)
      case atStart => exact ⟨0, Nat.zero_le _, rfl, HP0⟩
      case round =>
        obtain ⟨j, hj, rfl, HP⟩ := hrel
        clear HP0
        by_cases hlt : j < n
        · obtain ⟨q1, q0, qw⟩ := lp_nums j n hlt Hn.out
          have HL2 : Hid (ActsIs w (.slice a n cap) n k x K) := HL.out
          obtain ⟨g, off, rfl, hbl, hd0, hd1, hd2⟩ := (HL.out.ext HP.out.old).get hlt
          have HDa : Hid (∀ W, Pl2 w (.pointer (some da)) (.pointer (some db)) (dPl k x K j).1 (dPl k x K j).2 (dPl k x K j).1 (dPl k x K j).2 W → Calls Try.prog 12 #[.pointer (some da), .agg #[.int .i64 (k j), .string (x j), .int .u64 (K j : Int)]] W fun e w' => e = .returned (.int .i64 (dDo (dPl k x K j).1 (dPl k x K j).2 (k j) (x j) (K j)).2.2) ∧ Pl2 w (.pointer (some da)) (.pointer (some db)) (dPl k x K (j + 1)).1 (dPl k x K (j + 1)).2 (dPl k x K j).1 (dPl k x K j).2 w') := fun W h => pdoA_any (k j) (x j) (K j) (dPl_ok k x K j) (HK.out j hlt) h
          have HDb : Hid (∀ W, Pl2 w (.pointer (some da)) (.pointer (some db)) (dPl k x K (j + 1)).1 (dPl k x K (j + 1)).2 (dPl k x K j).1 (dPl k x K j).2 W → Calls Try.prog 12 #[.pointer (some db), .agg #[.int .i64 (k j), .string (x j), .int .u64 (K j : Int)]] W fun e w' => e = .returned (.int .i64 (dDo (dPl k x K j).1 (dPl k x K j).2 (k j) (x j) (K j)).2.2) ∧ Pl2 w (.pointer (some da)) (.pointer (some db)) (dPl k x K (j + 1)).1 (dPl k x K (j + 1)).2 (dPl k x K (j + 1)).1 (dPl k x K (j + 1)).2 w') := fun W h => pdoB_any (k j) (x j) (K j) (dPl_ok k x K j) (HK.out j hlt) h
          go_wp2_with fail
          refine (HDa.out _ HP.out).mono ?_
          rintro e w4 ⟨rfl, HPn⟩
          have HP4 : Hid _ := HPn
          obtain ⟨g2, off2, eg, hbl2, hf0, hf1, hf2⟩ := (HL2.out.ext HPn.old).get hlt
          injection eg with eg
          injection eg with eg1 eg2
          subst eg1 eg2
          clear HPn HP HDa hd0 hd1 hd2 hbl
          go_wp2_with fail
          refine (HDb.out _ HP4.out).mono ?_
          rintro e w5 ⟨rfl, HPn⟩
          have HP5 : Hid _ := HPn
          clear HPn HP4 HDb hf0 hf1 hf2
          go_wp2
          go_roundw
          case rel => exact ⟨j + 1, hlt, by push_cast; rfl, HP5⟩
          case measure => exact lp_meas hlt
        · have hnl : ¬ (j : Int) < (n : Int) := by omega
          have hok := dPl_ok k x K j
          generalize (dPl k x K j).1 = T at *
          generalize (dPl k x K j).2 = y at *
          obtain ⟨T1, T2, y2, y3, a1, a2, k0, a3, a4, k1, a5, a6, a7, a8, n1, n2⟩ := kept_nums T s y hok Hs.out
          have S1 : Hid (∀ W, Pl2 w (.pointer (some da)) (.pointer (some db)) T y T y W → Calls Try.prog 12 #[.pointer (some da), .agg #[.int .i64 2, .string ⟨#[]⟩, .int .u64 0]] W fun e w' => (∃ r, e = .returned (.int .i64 r)) ∧ Pl2 w (.pointer (some da)) (.pointer (some db)) T T.size T y w') := fun W h => by
            have := pdoA_any 2 ⟨#[]⟩ 0 hok (by decide) h
            rw [a1, a2] at this
            exact this.mono fun e w' q => ⟨⟨_, q.1⟩, q.2⟩
          have S2 : Hid (∀ W, Pl2 w (.pointer (some da)) (.pointer (some db)) T T.size T y W → Calls Try.prog 12 #[.pointer (some db), .agg #[.int .i64 2, .string ⟨#[]⟩, .int .u64 0]] W fun e w' => (∃ r, e = .returned (.int .i64 r)) ∧ Pl2 w (.pointer (some da)) (.pointer (some db)) T T.size T T.size w') := fun W h => by
            have := pdoB_any 2 ⟨#[]⟩ 0 hok (by decide) h
            rw [a1, a2] at this
            exact this.mono fun e w' q => ⟨⟨_, q.1⟩, q.2⟩
          have S3 : Hid (∀ W, Pl2 w (.pointer (some da)) (.pointer (some db)) T T.size T T.size W → Calls Try.prog 12 #[.pointer (some da), .agg #[.int .i64 1, .string s, .int .u64 0]] W fun e w' => (∃ r, e = .returned (.int .i64 r)) ∧ Pl2 w (.pointer (some da)) (.pointer (some db)) T1 T.size T T.size w') := fun W h => by
            have := pdoA_any 1 s 0 k0 (by decide) h
            rw [a3, a4] at this
            exact this.mono fun e w' q => ⟨⟨_, q.1⟩, q.2⟩
          have S4 : Hid (∀ W, Pl2 w (.pointer (some da)) (.pointer (some db)) T1 T.size T T.size W → Calls Try.prog 12 #[.pointer (some db), .agg #[.int .i64 1, .string s, .int .u64 0]] W fun e w' => (∃ r, e = .returned (.int .i64 r)) ∧ Pl2 w (.pointer (some da)) (.pointer (some db)) T1 T.size T1 T.size w') := fun W h => by
            have := pdoB_any 1 s 0 k0 (by decide) h
            rw [a3, a4] at this
            exact this.mono fun e w' q => ⟨⟨_, q.1⟩, q.2⟩
          have S5 : Hid (∀ W, Pl2 w (.pointer (some da)) (.pointer (some db)) T1 T.size T1 T.size W → Calls Try.prog 12 #[.pointer (some da), .agg #[.int .i64 3, .string ⟨#[]⟩, .int .u64 18446744073709551615]] W fun e w' => (∃ r, e = .returned (.int .i64 r)) ∧ Pl2 w (.pointer (some da)) (.pointer (some db)) T1 y2 T1 T.size w') := fun W h => by
            have := pdoA_any 3 ⟨#[]⟩ 18446744073709551615 k1 (by decide) h
            rw [a5, a6] at this
            exact this.mono fun e w' q => ⟨⟨_, q.1⟩, q.2⟩
          have S6 : Hid (∀ W, Pl2 w (.pointer (some da)) (.pointer (some db)) T1 y2 T1 T.size W → Calls Try.prog 12 #[.pointer (some db), .agg #[.int .i64 3, .string ⟨#[]⟩, .int .u64 0]] W fun e w' => (∃ r, e = .returned (.int .i64 r)) ∧ Pl2 w (.pointer (some da)) (.pointer (some db)) T1 y2 T2 y3 w') := fun W h => by
            have := pdoB_any 3 ⟨#[]⟩ 0 k1 (by decide) h
            rw [a7, a8] at this
            exact this.mono fun e w' q => ⟨⟨_, q.1⟩, q.2⟩
          clear a1 a2 a3 a4 a5 a6 a7 a8 k0 k1 hok
          have m1 : (T.size : Int) ≤ (T1.size : Int) := by omega
          have m2 : (T2.toList == (T1.extract 0 T.size).toList) = true := by rw [n2]; exact beq_self_eq_true _
          have m3 : (0 : Int) ≤ (T.size : Int) := by omega
          have m4 : (T1.toList == T1.toList) = true := beq_self_eq_true _
          clear n1 n2
          go_wp2_with fail
          refine (S1.out _ HP.out).mono ?_
          rintro e w4 ⟨⟨r4, rfl⟩, HPn⟩
          have HP4 : Hid (Pl2 w (.pointer (some da)) (.pointer (some db)) T T.size T y w4) := HPn
          clear HP HPn S1
          go_wp2_with fail
          refine (S2.out _ HP4.out).mono ?_
          rintro e w5 ⟨⟨r5, rfl⟩, HPn⟩
          have HP5 : Hid (Pl2 w (.pointer (some da)) (.pointer (some db)) T T.size T T.size w5) := HPn
          clear HP4 HPn S2
          go_wp2_with fail
          refine (psync_any HP5.out.one).mono ?_
          rintro e w6 ⟨rfl, HX⟩
          have HP6 : Hid (Pl2 w (.pointer (some da)) (.pointer (some db)) T T.size T T.size w6) := HP5.out.ext HX
          clear HP5 HX
          go_wp2_with fail
          refine (S3.out _ HP6.out).mono ?_
          rintro e w7 ⟨⟨r7, rfl⟩, HPn⟩
          have HP7 : Hid (Pl2 w (.pointer (some da)) (.pointer (some db)) T1 T.size T T.size w7) := HPn
          clear HP6 HPn S3
          go_wp2_with fail
          refine (S4.out _ HP7.out).mono ?_
          rintro e w8 ⟨⟨r8, rfl⟩, HPn⟩
          have HP8 : Hid (Pl2 w (.pointer (some da)) (.pointer (some db)) T1 T.size T1 T.size w8) := HPn
          clear HP7 HPn S4
          go_wp2_with fail
          refine (ptext_any HP8.out.one).mono ?_
          rintro e w9 ⟨rfl, HX⟩
          have HP9 : Hid (Pl2 w (.pointer (some da)) (.pointer (some db)) T1 T.size T1 T.size w9) := HP8.out.ext HX
          clear HP8 HX
          go_wp2_with fail
          refine (S5.out _ HP9.out).mono ?_
          rintro e w10 ⟨⟨r10, rfl⟩, HPn⟩
          have HP10 : Hid (Pl2 w (.pointer (some da)) (.pointer (some db)) T1 y2 T1 T.size w10) := HPn
          clear HP9 HPn S5
          go_wp2_with fail
          refine (S6.out _ HP10.out).mono ?_
          rintro e w11 ⟨⟨r11, rfl⟩, HPn⟩
          have HP11 : Hid (Pl2 w (.pointer (some da)) (.pointer (some db)) T1 y2 T2 y3 w11) := HPn
          clear HP10 HPn S6
          go_wp2_with fail
          have HS := HP11.out.ext (Ext.refl w11).drew
          clear HP11
          refine wp_region_noPanic ?_
          refine wp_region_held (S := Pl2 w (.pointer (some da)) (.pointer (some db)) T1 y2 T2 y3) (by kernel_rfl) ?_
          rw [show ({ w11 with drawn := w11.drawn + 1 } : World) = w11.drew from rfl]
          generalize w11.drew = w20 at *
          refine held_take (i := 0) (v := ?v0) rfl (by kernel_rfl) (by kernel_rfl) (by kernel_rfl) (fun _ _ _ h => h) rfl ?hy0 HS ?rest0
          case hy0 => (intro wx hSx; go_simp; try with_reducible rfl)
          try simp only [Act.put, List.setIfInBounds_toArray, List.set_cons_zero, List.set_cons_succ]
          refine held_take (i := 2) (v := ?v2) rfl (by kernel_rfl) (by kernel_rfl) (by kernel_rfl) (fun _ _ _ h => h) rfl ?hy2 HS ?rest2
          case hy2 => (intro wx hSx; go_simp; try with_reducible rfl)
          try simp only [Act.put, List.setIfInBounds_toArray, List.set_cons_zero, List.set_cons_succ]
          refine held_one (i := 1) (by kernel_rfl) rfl rfl (fun K hK => ?_)
          go_simp
          refine (ptext_any HS.one).mono ?_
          rintro e w21 ⟨rfl, HX⟩
          have Hw21 := HS.ext HX
          clear HX
          try go_simp
          refine hK.out _ _ ⟨Hw21, ?_⟩
          clear hK K
          try simp only [Act.put, List.setIfInBounds_toArray, List.set_cons_zero, List.set_cons_succ]
          refine held_take (i := 3) (v := ?v3) rfl (by kernel_rfl) (by kernel_rfl) (by kernel_rfl) (fun _ _ _ h => h) rfl ?hy3 Hw21 ?rest3
          case hy3 => (intro wx hSx; go_simp; try with_reducible rfl)
          try simp only [Act.put, List.setIfInBounds_toArray, List.set_cons_zero, List.set_cons_succ]
          refine held_take (i := 4) (v := ?v4) rfl (by kernel_rfl) (by kernel_rfl) (by kernel_rfl) (fun _ _ _ h => h) rfl ?hy4 Hw21 ?rest4
          case hy4 => (intro wx hSx; go_simp; try with_reducible rfl)
          try simp only [Act.put, List.setIfInBounds_toArray, List.set_cons_zero, List.set_cons_succ]
          refine held_take (i := 5) (v := ?v5) rfl (by kernel_rfl) (by kernel_rfl) (by kernel_rfl) (fun _ _ _ h => h) rfl ?hy5 Hw21 ?rest5
          case hy5 => (intro wx hSx; go_simp; try with_reducible rfl)
          try simp only [Act.put, List.setIfInBounds_toArray, List.set_cons_zero, List.set_cons_succ]
          refine held_take (i := 6) (v := ?v6) rfl (by kernel_rfl) (by kernel_rfl) (by kernel_rfl) (fun _ _ _ h => h) rfl ?hy6 Hw21 ?rest6
          case hy6 => (intro wx hSx; go_simp; try with_reducible rfl)
          try simp only [Act.put, List.setIfInBounds_toArray, List.set_cons_zero, List.set_cons_succ]
          refine held_take (i := 7) (v := ?v7) rfl (by kernel_rfl) (by kernel_rfl) (by kernel_rfl) (fun _ _ _ h => h) rfl ?hy7 Hw21 ?rest7
          case hy7 => (intro wx hSx; go_simp; try with_reducible rfl)
          try simp only [Act.put, List.setIfInBounds_toArray, List.set_cons_zero, List.set_cons_succ]
          refine held_take (i := 8) (v := ?v8) rfl (by kernel_rfl) (by kernel_rfl) (by kernel_rfl) (fun _ _ _ h => h) rfl ?hy8 Hw21 ?rest8
          case hy8 => (intro wx hSx; go_simp; try with_reducible rfl)
          try simp only [Act.put, List.setIfInBounds_toArray, List.set_cons_zero, List.set_cons_succ]
          refine held_take (i := 9) (v := ?v9) rfl (by kernel_rfl) (by kernel_rfl) (by kernel_rfl) (fun _ _ _ h => h) rfl ?hy9 Hw21 ?rest9
          case hy9 => (intro wx hSx; go_simp; try with_reducible rfl)
          try simp only [Act.put, List.setIfInBounds_toArray, List.set_cons_zero, List.set_cons_succ]
          refine held_take (i := 10) (v := ?v10) rfl (by kernel_rfl) (by kernel_rfl) (by kernel_rfl) (fun _ _ _ h => h) rfl ?hy10 Hw21 ?rest10
          case hy10 => (intro wx hSx; go_simp; try with_reducible rfl)
          try simp only [Act.put, List.setIfInBounds_toArray, List.set_cons_zero, List.set_cons_succ]
          refine held_take (i := 11) (v := ?v11) rfl (by kernel_rfl) (by kernel_rfl) (by kernel_rfl) (fun _ _ _ h => h) rfl ?hy11 Hw21 ?rest11
          case hy11 => (intro wx hSx; go_simp; try with_reducible rfl)
          try simp only [Act.put, List.setIfInBounds_toArray, List.set_cons_zero, List.set_cons_succ]
          refine held_take (i := 13) (v := ?v13) rfl (by kernel_rfl) (by kernel_rfl) (by kernel_rfl) (fun _ _ _ h => h) rfl ?hy13 Hw21 ?rest13
          case hy13 => (intro wx hSx; go_simp; try with_reducible rfl)
          try simp only [Act.put, List.setIfInBounds_toArray, List.set_cons_zero, List.set_cons_succ]
          refine held_take (i := 14) (v := ?v14) rfl (by kernel_rfl) (by kernel_rfl) (by kernel_rfl) (fun _ _ _ h => h) rfl ?hy14 Hw21 ?rest14
          case hy14 => (intro wx hSx; go_simp; try with_reducible rfl)
          try simp only [Act.put, List.setIfInBounds_toArray, List.set_cons_zero, List.set_cons_succ]
          refine held_take (i := 15) (v := ?v15) rfl (by kernel_rfl) (by kernel_rfl) (by kernel_rfl) (fun _ _ _ h => h) rfl ?hy15 Hw21 ?rest15
          case hy15 => (intro wx hSx; go_simp; try with_reducible rfl)
          try simp only [Act.put, List.setIfInBounds_toArray, List.set_cons_zero, List.set_cons_succ]
          refine held_one (i := 12) (by kernel_rfl) rfl rfl (fun K hK => ?_)
          go_simp
          refine (ptext_any Hw21.swap.one).mono ?_
          rintro e w22 ⟨rfl, HX⟩
          have Hw22 := Hw21.ext HX
          clear HX
          try go_simp
          refine hK.out _ _ ⟨Hw22, ?_⟩
          clear hK K
          try simp only [Act.put, List.setIfInBounds_toArray, List.set_cons_zero, List.set_cons_succ]
          refine held_take (i := 16) (v := ?v16) rfl (by kernel_rfl) (by kernel_rfl) (by kernel_rfl) (fun _ _ _ h => h) rfl ?hy16 Hw22 ?rest16
          case hy16 => (intro wx hSx; go_simp; try with_reducible rfl)
          try simp only [Act.put, List.setIfInBounds_toArray, List.set_cons_zero, List.set_cons_succ]
          refine held_take (i := 17) (v := ?v17) rfl (by kernel_rfl) (by kernel_rfl) (by kernel_rfl) (fun _ _ _ h => h) rfl ?hy17 Hw22 ?rest17
          case hy17 => (intro wx hSx; go_simp; try with_reducible rfl)
          try simp only [Act.put, List.setIfInBounds_toArray, List.set_cons_zero, List.set_cons_succ]
          refine held_take (i := 18) (v := ?v18) rfl (by kernel_rfl) (by kernel_rfl) (by kernel_rfl) (fun _ _ _ h => h) rfl ?hy18 Hw22 ?rest18
          case hy18 => (intro wx hSx; go_simp; try with_reducible rfl)
          try simp only [Act.put, List.setIfInBounds_toArray, List.set_cons_zero, List.set_cons_succ]
          refine held_one (i := 19) (by kernel_rfl) rfl rfl (fun K hK => ?_)
          go_simp
          refine (awake_any _).mono ?_
          rintro e w23 ⟨rfl, HX⟩
          have Hw23 := Hw22.ext HX
          clear HX
          try go_simp
          refine hK.out _ _ ⟨Hw23, ?_⟩
          clear hK K
          try simp only [Act.put, List.setIfInBounds_toArray, List.set_cons_zero, List.set_cons_succ]
          refine held_take (i := 20) (v := ?v20) rfl (by kernel_rfl) (by kernel_rfl) (by kernel_rfl) (fun _ _ _ h => h) rfl ?hy20 Hw23 ?rest20
          case hy20 => (intro wx hSx; go_simp; try with_reducible rfl)
          try simp only [Act.put, List.setIfInBounds_toArray, List.set_cons_zero, List.set_cons_succ]
          refine held_take (i := 21) (v := ?v21) rfl (by kernel_rfl) (by kernel_rfl) (by kernel_rfl) (fun _ _ _ h => h) rfl ?hy21 Hw23 ?rest21
          case hy21 => (intro wx hSx; go_simp; try with_reducible rfl)
          try simp only [Act.put, List.setIfInBounds_toArray, List.set_cons_zero, List.set_cons_succ]
          refine wpAnyH_done (by kernel_rfl) ?_ _
          refine NoPanic.normal ?_
          go_wp2
          go_ret
          exact ⟨rfl, Hw23.old⟩
end Go.Proofs.Ythcnoeddilhpbaa

/-
  ReleaseEarly, ReleaseOrder, ReleaseStays, called: true; nothing old is turned.
-/
import Derived.Test.YtdpplmfgbglkhaaGAwake
namespace Go.Proofs.Ytdpplmfgbglkhaa
open Go.RowKit
set_option maxHeartbeats 4000000 in
theorem releaseEarly_any (b e : Int) (v : Value) (n : Nat) (f : Nat → Int) (ep : Int) (w : World) (hL : IntsIs w v n f) :
    Calls Try.prog 4 #[.agg #[.int .i64 b, .int .i64 e], v, .int .i64 ep] w fun r w' => r = .returned (.bool true) ∧ Ext w w' := by
  have HL : Hid (IntsIs w v n f) := hL
  obtain ⟨a, cap, rfl, _⟩ := hL
  have HE0 : Hid (Ext w (w.alloc (.cells #[.int .i64 b, .int .i64 e] 23))) := (Ext.refl w).alloc _
  by_cases hn : 1000 < n
  · go_enter Try.func4, Try.ntmps4
    go_wp2_with fail
    refine (awake_any _).mono ?_
    rintro r w1 ⟨rfl, HX⟩
    have HE1 : Hid (Ext w w1) := HE0.out.trans HX
    clear HX HE0
    go_wp2
    go_ret
    exact ⟨rfl, HE1.out⟩
  · go_enter Try.func4, Try.ntmps4
    go_wp2_with fail
    refine (pnew_any b e HE0.out).mono ?_
    rintro r w1 ⟨g, rfl, HP⟩
    obtain ⟨B, hB⟩ : ∃ B, rB b = B := ⟨_, rfl⟩
    obtain ⟨E, hE⟩ : ∃ E, rE e = E := ⟨_, rfl⟩
    rw [hB, hE] at HP
    have HP1 : Hid (PlG w (.pointer (some g)) B E (rNs 0 f 0) (rMs (-1) f 0) w1) := HP
    clear HP hB hE HE0
    go_wp2_with fail
    refine (ptime_any ep HP1.out).mono ?_
    rintro r w2 ⟨rfl, HP⟩
    have HP2 : Hid (PlG w (.pointer (some g)) B E (rNs 0 f 0) (rMs (-1) f 0) w2) := HP
    have HK := rT_some (e := ep) HP.ok
    clear HP HP1
    obtain ⟨t, Ht⟩ : ∃ t, Hid (rT B E ep = t) := ⟨_, rfl⟩
    rw [Ht.out] at HK ⊢
    have HO : Hid (∀ j, rO B E (rMs (-1) f (j + 1)) ep = (rO B E (rMs (-1) f j) ep || (decide (0 ≤ t) && decide (t ≤ rN (f j))))) := fun j => by rw [← Ht.out]; exact rO_step B E (rMs (-1) f j) ep (f j)
    have HO0 : rO B E (rMs (-1) f 0) ep = false := rO_new B E ep
    have HK : Hid (decide (0 ≤ t) = decide (0 ≤ ep ∧ ep ≤ 63)) := HK
    go_wp2_with fail
    go_loopw [9, 10] (fun u9 u10 wr => ∃ j : Nat, j ≤ n ∧ u9 = .bool (rO B E (rMs (-1) f j) ep) ∧ u10 = .int .i64 j ∧ Hid (PlG w (.pointer (some g)) B E (rNs 0 f j) (rMs (-1) f j) wr)) (fun _ u10 _ => n - (intOf u10).toNat)
    case atStart => exact ⟨0, Nat.zero_le _, by rw [HO0], rfl, HP2⟩
    case round =>
      obtain ⟨j, hj, rfl, rfl, HP⟩ := hrel
      clear HP2 HO0
      by_cases hlt : j < n
      · obtain ⟨q1, q0, qw⟩ := lp_nums j n hlt (by omega)
        obtain ⟨bl, off, rfl, hbl, hcw⟩ := HL.out.get hlt
        have hc := later HP.out.old hcw
        have hcw : Hid _ := hcw
        have hN := HO.out j
        have C1 : Hid (Calls Try.prog 13 #[.pointer (some g), .int .i64 (f j)] wr fun r w' => r = .returned (.tuple #[]) ∧ PlG w (.pointer (some g)) B E (rNs 0 f (j + 1)) (rMs (-1) f (j + 1)) w') := ptick_any (f j) HP.out
        obtain ⟨x0, h0⟩ : ∃ x, max (f j) 0 = x := ⟨_, rfl⟩
        obtain ⟨x2, h2⟩ : ∃ x, min x0 1099511627776 = x := ⟨_, rfl⟩
        rw [show rN (f j) = x2 by rw [← h2, ← h0]; rfl] at hN
        rw [← max_if] at h0
        rw [← min_if] at h2
        generalize rO B E (rMs (-1) f j) ep = o at hN ⊢
        have main : ∀ o', rO B E (rMs (-1) f (j + 1)) ep = o' → Hid (∀ W, PlG w (.pointer (some g)) B E (rNs 0 f (j + 1)) (rMs (-1) f (j + 1)) W → Calls Try.prog 16 #[.pointer (some g), .int .i64 ep] W fun r w' => r = .returned (.bool o') ∧ PlG w (.pointer (some g)) B E (rNs 0 f (j + 1)) (rMs (-1) f (j + 1)) w') := fun o' q W h => by rw [← q]; exact popen_any ep h
        clear HP HO
        cases o with
        | true =>
          have hN2 : rO B E (rMs (-1) f (j + 1)) ep = true := by rw [hN]; rfl
          have C2 := main _ hN2
          have HN : Hid (rO B E (rMs (-1) f (j + 1)) ep = true) := hN2
          clear hN hN2 main
          go_wp2_with fail
          refine C1.out.mono ?_
          rintro r w3 ⟨rfl, HP⟩
          have HP3 : Hid (PlG w (.pointer (some g)) B E (rNs 0 f (j + 1)) (rMs (-1) f (j + 1)) w3) := HP
          replace hc := later HP.old hcw.out
          replace hbl := Nat.lt_of_lt_of_le hbl (Nat.le_refl _)
          clear HP C1
          go_wp2_with fail
          refine (C2.out _ HP3.out).mono ?_
          rintro r w4 ⟨rfl, HP⟩
          have HP4 : Hid (PlG w (.pointer (some g)) B E (rNs 0 f (j + 1)) (rMs (-1) f (j + 1)) w4) := HP
          clear HP HP3 C2
          go_wp2
          go_roundw
          case rel => exact ⟨j + 1, hlt, by rw [HN.out], by push_cast; rfl, HP4⟩
          case measure => exact lp_meas hlt
        | false =>
          by_cases k2 : 0 ≤ t
          · by_cases k3 : t ≤ x2
            · have hN2 : rO B E (rMs (-1) f (j + 1)) ep = true := by rw [hN, decide_eq_true k2, decide_eq_true k3]; rfl
              have C2 := main _ hN2
              have HN : Hid (rO B E (rMs (-1) f (j + 1)) ep = true) := hN2
              clear hN hN2 main
              go_wp2_with fail
              refine C1.out.mono ?_
              rintro r w3 ⟨rfl, HP⟩
              have HP3 : Hid (PlG w (.pointer (some g)) B E (rNs 0 f (j + 1)) (rMs (-1) f (j + 1)) w3) := HP
              replace hc := later HP.old hcw.out
              replace hbl := Nat.lt_of_lt_of_le hbl (Nat.le_refl _)
              clear HP C1
              go_wp2_with fail
              refine (C2.out _ HP3.out).mono ?_
              rintro r w4 ⟨rfl, HP⟩
              have HP4 : Hid (PlG w (.pointer (some g)) B E (rNs 0 f (j + 1)) (rMs (-1) f (j + 1)) w4) := HP
              clear HP HP3 C2
              go_wp2
              go_roundw
              case rel => exact ⟨j + 1, hlt, by rw [HN.out], by push_cast; rfl, HP4⟩
              case measure => exact lp_meas hlt
            · have hN2 : rO B E (rMs (-1) f (j + 1)) ep = false := by rw [hN, decide_eq_true k2, decide_eq_false k3]; rfl
              replace k3 : decide (t ≤ x2) = false := decide_eq_false k3
              have C2 := main _ hN2
              have HN : Hid (rO B E (rMs (-1) f (j + 1)) ep = false) := hN2
              clear hN hN2 main
              go_wp2_with fail
              refine C1.out.mono ?_
              rintro r w3 ⟨rfl, HP⟩
              have HP3 : Hid (PlG w (.pointer (some g)) B E (rNs 0 f (j + 1)) (rMs (-1) f (j + 1)) w3) := HP
              replace hc := later HP.old hcw.out
              replace hbl := Nat.lt_of_lt_of_le hbl (Nat.le_refl _)
              clear HP C1
              go_wp2_with fail
              refine (C2.out _ HP3.out).mono ?_
              rintro r w4 ⟨rfl, HP⟩
              have HP4 : Hid (PlG w (.pointer (some g)) B E (rNs 0 f (j + 1)) (rMs (-1) f (j + 1)) w4) := HP
              clear HP HP3 C2
              go_wp2
              go_roundw
              case rel => exact ⟨j + 1, hlt, by rw [HN.out], by push_cast; rfl, HP4⟩
              case measure => exact lp_meas hlt
          · have hN2 : rO B E (rMs (-1) f (j + 1)) ep = false := by rw [hN, decide_eq_false k2]; rfl
            have k2b : decide (0 ≤ t) = false := decide_eq_false k2
            have k2c : (0 ≤ t) = False := eq_false k2
            clear k2
            have C2 := main _ hN2
            have HN : Hid (rO B E (rMs (-1) f (j + 1)) ep = false) := hN2
            clear hN hN2 main
            go_wp2_with fail
            refine C1.out.mono ?_
            rintro r w3 ⟨rfl, HP⟩
            have HP3 : Hid (PlG w (.pointer (some g)) B E (rNs 0 f (j + 1)) (rMs (-1) f (j + 1)) w3) := HP
            replace hc := later HP.old hcw.out
            replace hbl := Nat.lt_of_lt_of_le hbl (Nat.le_refl _)
            clear HP C1
            go_wp2_with fail
            refine (C2.out _ HP3.out).mono ?_
            rintro r w4 ⟨rfl, HP⟩
            have HP4 : Hid (PlG w (.pointer (some g)) B E (rNs 0 f (j + 1)) (rMs (-1) f (j + 1)) w4) := HP
            clear HP HP3 C2
            go_wp2
            go_roundw
            case rel => exact ⟨j + 1, hlt, by rw [HN.out], by push_cast; rfl, HP4⟩
            case measure => exact lp_meas hlt
      · have hnl : ¬ (j : Int) < (n : Int) := by omega
        have HX := HP.out.old
        have hk := HK.out
        clear HO Ht HK
        have HS : Hid (∀ W, Ext w W → Calls Try.prog 8 #[] W fun r w' => r = .returned (.bool true) ∧ Ext w w') := fun W h => (awake_any W).mono fun r w' q => ⟨q.1, h.trans q.2⟩
        by_cases k1 : 0 ≤ ep
        · by_cases k2 : ep ≤ 63
          · have k3 : 0 ≤ t := by rw [decide_eq_true (p := 0 ≤ ep ∧ ep ≤ 63) ⟨k1, k2⟩] at hk; exact of_decide_eq_true hk
            clear hk
            go_wp2_with fail
            refine (HS.out _ HX).mono ?_
            rintro r w3 ⟨rfl, HX3⟩
            have HE3 : Hid (Ext w w3) := HX3
            clear HX3
            go_wp2
            go_ret
            exact ⟨rfl, HE3.out⟩
          · have k3 : ¬ 0 ≤ t := by rw [decide_eq_false (p := 0 ≤ ep ∧ ep ≤ 63) (fun q => k2 q.2)] at hk; exact of_decide_eq_false hk
            clear hk
            go_wp2_with fail
            refine (HS.out _ HX).mono ?_
            rintro r w3 ⟨rfl, HX3⟩
            have HE3 : Hid (Ext w w3) := HX3
            clear HX3
            go_wp2
            go_ret
            exact ⟨rfl, HE3.out⟩
        · have k3 : ¬ 0 ≤ t := by rw [decide_eq_false (p := 0 ≤ ep ∧ ep ≤ 63) (fun q => k1 q.1)] at hk; exact of_decide_eq_false hk
          clear hk
          go_wp2_with fail
          refine (HS.out _ HX).mono ?_
          rintro r w3 ⟨rfl, HX3⟩
          have HE3 : Hid (Ext w w3) := HX3
          clear HX3
          go_wp2
          go_ret
          exact ⟨rfl, HE3.out⟩
theorem ord_meas {i : Nat} (h : i < 63) : 64 - (intOf (.int .i64 ((i : Int) + 1 + 1))).toNat < 64 - (intOf (.int .i64 ((i : Int) + 1))).toNat := by
  simp only [intOf]
  omega
set_option maxHeartbeats 4000000 in
theorem releaseOrder_any (b e : Int) (v : Value) (n : Nat) (f : Nat → Int) (w : World) (hL : IntsIs w v n f) :
    Calls Try.prog 5 #[.agg #[.int .i64 b, .int .i64 e], v] w fun r w' => r = .returned (.bool true) ∧ Ext w w' := by
  have HL : Hid (IntsIs w v n f) := hL
  obtain ⟨a, cap, rfl, _⟩ := hL
  have HE0 : Hid (Ext w (w.alloc (.cells #[.int .i64 b, .int .i64 e] 23))) := (Ext.refl w).alloc _
  by_cases hn : 1000 < n
  · go_enter Try.func5, Try.ntmps5
    go_wp2_with fail
    refine (awake_any _).mono ?_
    rintro r w1 ⟨rfl, HX⟩
    have HE1 : Hid (Ext w w1) := HE0.out.trans HX
    clear HX HE0
    go_wp2
    go_ret
    exact ⟨rfl, HE1.out⟩
  · go_enter Try.func5, Try.ntmps5
    go_wp2_with fail
    refine (pnew_any b e HE0.out).mono ?_
    rintro r w1 ⟨g, rfl, HP⟩
    obtain ⟨B, hB⟩ : ∃ B, rB b = B := ⟨_, rfl⟩
    obtain ⟨E, hE⟩ : ∃ E, rE e = E := ⟨_, rfl⟩
    rw [hB, hE] at HP
    have HP1 : Hid (PlG w (.pointer (some g)) B E (rNs 0 f 0) (rMs (-1) f 0) w1) := HP
    clear HP hB hE HE0
    go_wp2_with fail
    go_loopw [6] (fun u6 wr => ∃ j : Nat, j ≤ n ∧ u6 = .int .i64 j ∧ Hid (PlG w (.pointer (some g)) B E (rNs 0 f j) (rMs (-1) f j) wr)) (fun u6 _ => n - (intOf u6).toNat)
    case atStart => exact ⟨0, Nat.zero_le _, rfl, HP1⟩
    case round =>
      obtain ⟨j, hj, rfl, HP⟩ := hrel
      clear HP1
      by_cases hlt : j < n
      · obtain ⟨q1, q0, qw⟩ := lp_nums j n hlt (by omega)
        obtain ⟨bl, off, rfl, hbl, hcw⟩ := HL.out.get hlt
        have hc := later HP.out.old hcw
        have C1 : Hid (Calls Try.prog 13 #[.pointer (some g), .int .i64 (f j)] wr fun r w' => r = .returned (.tuple #[]) ∧ PlG w (.pointer (some g)) B E (rNs 0 f (j + 1)) (rMs (-1) f (j + 1)) w') := ptick_any (f j) HP.out
        clear HP hcw
        go_wp2_with fail
        refine C1.out.mono ?_
        rintro r w3 ⟨rfl, HP⟩
        have HP3 : Hid (PlG w (.pointer (some g)) B E (rNs 0 f (j + 1)) (rMs (-1) f (j + 1)) w3) := HP
        clear HP C1 hc
        go_wp2
        go_roundw
        case rel => exact ⟨j + 1, hlt, by push_cast; rfl, HP3⟩
        case measure => exact lp_meas hlt
      · have hnl : ¬ (j : Int) < (n : Int) := by omega
        generalize rNs 0 f j = N at HP
        generalize rMs (-1) f j = M at HP
        have HK : Hid (GOk B E N M) := HP.out.ok
        have HTm : Hid (∀ x W, PlG w (.pointer (some g)) B E N M W → Calls Try.prog 18 #[.pointer (some g), .int .i64 x] W fun r w' => r = .returned (.int .i64 (rT B E x)) ∧ PlG w (.pointer (some g)) B E N M w') := fun x W h => ptime_any x h
        have HOp : Hid (∀ x W, PlG w (.pointer (some g)) B E N M W → Calls Try.prog 16 #[.pointer (some g), .int .i64 x] W fun r w' => r = .returned (.bool (rO B E M x)) ∧ PlG w (.pointer (some g)) B E N M w') := fun x W h => popen_any x h
        go_wp2_with fail
        go_loopw [7] (fun u7 wr => ∃ i : Nat, i ≤ 63 ∧ u7 = .int .i64 ((i : Int) + 1) ∧ Hid (PlG w (.pointer (some g)) B E N M wr)) (fun u7 _ => 64 - (intOf u7).toNat)
        case atStart => exact ⟨0, by decide, rfl, HP⟩
        case round =>
          rename World => W0
          obtain ⟨i, hi, rfl, HP2⟩ := hrel
          clear HP
          by_cases hlt2 : i < 63
          · obtain ⟨t0, t1, e0, e1, e2, e3, e4, e5, e6, hor⟩ := ord_nums HK.out hlt2
            have HOr : Hid (rO B E M ((i : Int) + 1) = true → rO B E M (i : Int) = true) := hor
            clear hor
            obtain ⟨o1, ho1⟩ : ∃ o, rO B E M ((i : Int) + 1) = o := ⟨_, rfl⟩
            obtain ⟨o0, ho0⟩ : ∃ o, rO B E M (i : Int) = o := ⟨_, rfl⟩
            have HC1 : Hid (∀ W, PlG w (.pointer (some g)) B E N M W → Calls Try.prog 16 #[.pointer (some g), .int .i64 ((i : Int) + 1)] W fun r w' => r = .returned (.bool o1) ∧ PlG w (.pointer (some g)) B E N M w') := fun W h => by rw [← ho1]; exact HOp.out _ W h
            have HC0 : Hid (∀ W, PlG w (.pointer (some g)) B E N M W → Calls Try.prog 16 #[.pointer (some g), .int .i64 (i : Int)] W fun r w' => r = .returned (.bool o0) ∧ PlG w (.pointer (some g)) B E N M w') := fun W h => by rw [← ho0]; exact HOp.out _ W h
            rw [ho1, ho0] at HOr
            clear ho1 ho0 HOp
            have HT1 : Hid (∀ W, PlG w (.pointer (some g)) B E N M W → Calls Try.prog 18 #[.pointer (some g), .int .i64 ((i : Int) + 1)] W fun r w' => r = .returned (.int .i64 t1) ∧ PlG w (.pointer (some g)) B E N M w') := fun W h => by rw [← e1]; exact HTm.out _ W h
            have HT0 : Hid (∀ W, PlG w (.pointer (some g)) B E N M W → Calls Try.prog 18 #[.pointer (some g), .int .i64 (i : Int)] W fun r w' => r = .returned (.int .i64 t0) ∧ PlG w (.pointer (some g)) B E N M w') := fun W h => by rw [← e0]; exact HTm.out _ W h
            have HTB : Hid (∀ W, PlG w (.pointer (some g)) B E N M W → Calls Try.prog 18 #[.pointer (some g), .int .i64 1] W fun r w' => r = .returned (.int .i64 (B + E)) ∧ PlG w (.pointer (some g)) B E N M w') := fun W h => by rw [← e3]; exact HTm.out _ W h
            have HTA : Hid (∀ W, PlG w (.pointer (some g)) B E N M W → Calls Try.prog 18 #[.pointer (some g), .int .i64 0] W fun r w' => r = .returned (.int .i64 B) ∧ PlG w (.pointer (some g)) B E N M w') := fun W h => (HTm.out 0 W h).mono fun r w' q => ⟨by rw [q.1, e2], q.2⟩
            have b0 := HK.out.b0
            have b1 := HK.out.b1
            have k0 := HK.out.e0
            have k1 := HK.out.e1
            have z0 : ((i : Int) + 1 ≤ 63) := by omega
            have z1 : IntKind.i64.wrap ((i : Int) + 1 - 1) = (i : Int) := by rw [IntKind.wrap_i64]; omega
            have z2 : IntKind.i64.wrap (t1 - t0) = E := by rw [IntKind.wrap_i64]; omega
            have z3 : IntKind.i64.wrap (B + E - B) = E := by rw [IntKind.wrap_i64]; omega
            have z4 : IntKind.i64.wrap ((i : Int) + 1 + 1) = (i : Int) + 1 + 1 := by rw [IntKind.wrap_i64]; omega
            have z5 : (t1 ≤ t0) = False := eq_false (by omega)
            have z6 : decide (t1 ≤ t0) = false := decide_eq_false (by omega)
            clear e0 e1 e2 e3 e4 e5 e6 b0 b1 k0 k1 HTm
            go_wp2_with fail
            refine (HC1.out _ HP2.out).mono ?_
            rintro r W3 ⟨rfl, HP⟩
            have HP3 : Hid (PlG w (.pointer (some g)) B E N M W3) := HP
            clear HP HP2 HC1
            cases o1 with
            | true =>
              obtain rfl : o0 = true := HOr.out rfl
              go_wp2_with fail
              refine (HC0.out _ HP3.out).mono ?_
              rintro r W4 ⟨rfl, HP⟩
              have HP4 : Hid (PlG w (.pointer (some g)) B E N M W4) := HP
              clear HP HP3 HC0 HOr
              go_wp2_with fail
              refine (HT1.out _ HP4.out).mono ?_
              rintro r W10 ⟨rfl, HP⟩
              have HP10 : Hid (PlG w (.pointer (some g)) B E N M W10) := HP
              clear HP HP4
              go_wp2_with fail
              refine (HT0.out _ HP10.out).mono ?_
              rintro r W11 ⟨rfl, HP⟩
              have HP11 : Hid (PlG w (.pointer (some g)) B E N M W11) := HP
              clear HP HP10
              go_wp2_with fail
              refine (HTB.out _ HP11.out).mono ?_
              rintro r W12 ⟨rfl, HP⟩
              have HP12 : Hid (PlG w (.pointer (some g)) B E N M W12) := HP
              clear HP HP11
              go_wp2_with fail
              refine (HTA.out _ HP12.out).mono ?_
              rintro r W13 ⟨rfl, HP⟩
              have HP13 : Hid (PlG w (.pointer (some g)) B E N M W13) := HP
              clear HP HP12
              go_wp2_with fail
              refine (HT1.out _ HP13.out).mono ?_
              rintro r W14 ⟨rfl, HP⟩
              have HP14 : Hid (PlG w (.pointer (some g)) B E N M W14) := HP
              clear HP HP13
              go_wp2_with fail
              refine (HT0.out _ HP14.out).mono ?_
              rintro r W15 ⟨rfl, HP⟩
              have HP15 : Hid (PlG w (.pointer (some g)) B E N M W15) := HP
              clear HP HP14
              go_wp2
              go_roundw
              case rel => exact ⟨i + 1, hlt2, by push_cast; rfl, HP15⟩
              case measure => exact ord_meas hlt2
            | false =>
              clear HC0 HOr
              go_wp2_with fail
              refine (HT1.out _ HP3.out).mono ?_
              rintro r W10 ⟨rfl, HP⟩
              have HP10 : Hid (PlG w (.pointer (some g)) B E N M W10) := HP
              clear HP HP3
              go_wp2_with fail
              refine (HT0.out _ HP10.out).mono ?_
              rintro r W11 ⟨rfl, HP⟩
              have HP11 : Hid (PlG w (.pointer (some g)) B E N M W11) := HP
              clear HP HP10
              go_wp2_with fail
              refine (HTB.out _ HP11.out).mono ?_
              rintro r W12 ⟨rfl, HP⟩
              have HP12 : Hid (PlG w (.pointer (some g)) B E N M W12) := HP
              clear HP HP11
              go_wp2_with fail
              refine (HTA.out _ HP12.out).mono ?_
              rintro r W13 ⟨rfl, HP⟩
              have HP13 : Hid (PlG w (.pointer (some g)) B E N M W13) := HP
              clear HP HP12
              go_wp2_with fail
              refine (HT1.out _ HP13.out).mono ?_
              rintro r W14 ⟨rfl, HP⟩
              have HP14 : Hid (PlG w (.pointer (some g)) B E N M W14) := HP
              clear HP HP13
              go_wp2_with fail
              refine (HT0.out _ HP14.out).mono ?_
              rintro r W15 ⟨rfl, HP⟩
              have HP15 : Hid (PlG w (.pointer (some g)) B E N M W15) := HP
              clear HP HP14
              go_wp2
              go_roundw
              case rel => exact ⟨i + 1, hlt2, by push_cast; rfl, HP15⟩
              case measure => exact ord_meas hlt2
          · have m0 : ((i : Int) + 1 ≤ 63) = False := eq_false (by omega)
            have m1 : decide ((i : Int) + 1 ≤ 63) = false := decide_eq_false (by omega)
            have HX := HP2.out.old
            clear HTm HOp HK HP2
            go_wp2_with fail
            refine (awake_any _).mono ?_
            rintro r w3 ⟨rfl, HX3⟩
            have HE3 : Hid (Ext w w3) := HX.trans HX3
            clear HX3 HX
            go_wp2
            go_ret
            exact ⟨rfl, HE3.out⟩
set_option maxHeartbeats 4000000 in
theorem releaseStays_any (b e : Int) (va : Value) (na : Nat) (fa : Nat → Int) (vb : Value) (nb : Nat) (fb : Nat → Int) (ep : Int) (w : World) (hA : IntsIs w va na fa) (hB : IntsIs w vb nb fb) :
    Calls Try.prog 6 #[.agg #[.int .i64 b, .int .i64 e], .agg #[va, vb], .int .i64 ep] w fun r w' => r = .returned (.bool true) ∧ Ext w w' := by
  have HA : Hid (IntsIs w va na fa) := hA
  have HB : Hid (IntsIs w vb nb fb) := hB
  obtain ⟨aa, ca, rfl, _⟩ := hA
  obtain ⟨ab, cb, rfl, _⟩ := hB
  have HE0 : Hid (Ext w ((w.alloc (.cells #[.int .i64 b, .int .i64 e] 23)).alloc (.cells #[.slice aa na ca, .slice ab nb cb] 41))) := ((Ext.refl w).alloc _).alloc _
  have HC0 : Hid (((w.alloc (.cells #[.int .i64 b, .int .i64 e] 23)).alloc (.cells #[.slice aa na ca, .slice ab nb cb] 41)).cell? ⟨w.heap.size + 1, 0, none⟩ = some (.slice aa na ca)) := by
    show _ = _
    rw [World.cell?_alloc_at _ _ _ _ (by simp)]; rfl
  have HV : Hid (w.heap.size + 1 < ((w.alloc (.cells #[.int .i64 b, .int .i64 e] 23)).alloc (.cells #[.slice aa na ca, .slice ab nb cb] 41)).heap.size) := by show _ < _; simp
  by_cases hn : na ≤ 1000 ∧ nb ≤ 1000
  · obtain ⟨n1, n2⟩ := hn
    have m1 : ¬ (1000 : Int) < (na : Int) := by omega
    have m2 : ¬ (1000 : Int) < (nb : Int) := by omega
    go_enter Try.func6, Try.ntmps6
    go_wp2_with fail
    refine (pnew_any b e (Ext.refl _)).mono ?_
    rintro r w1 ⟨g, rfl, HP⟩
    obtain ⟨B, hB⟩ : ∃ B, rB b = B := ⟨_, rfl⟩
    obtain ⟨E, hE⟩ : ∃ E, rE e = E := ⟨_, rfl⟩
    rw [hB, hE] at HP
    clear hB hE
    generalize (w.alloc (.cells #[.int .i64 b, .int .i64 e] 23)).alloc (.cells #[.slice aa na ca, .slice ab nb cb] 41) = V at *
    have HP1 : Hid (PlG V (.pointer (some g)) B E (rNs 0 fa 0) (rMs (-1) fa 0) w1) := HP
    clear HP
    go_wp2_with fail
    go_loopw [9] (fun u9 wr => ∃ j : Nat, j ≤ na ∧ u9 = .int .i64 j ∧ Hid (PlG V (.pointer (some g)) B E (rNs 0 fa j) (rMs (-1) fa j) wr)) (fun u9 _ => na - (intOf u9).toNat)
    case atStart => exact ⟨0, Nat.zero_le _, rfl, HP1⟩
    case round =>
      obtain ⟨j, hj, rfl, HP⟩ := hrel
      clear HP1
      have hl := later HP.out.old HC0.out
      have hv := Nat.lt_of_lt_of_le HV.out HP.out.old.size
      by_cases hlt : j < na
      · obtain ⟨q1, q0, qw⟩ := lp_nums j na hlt (by omega)
        obtain ⟨bl, off, rfl, hbl, hcw⟩ := HA.out.get hlt
        have hc := later (HE0.out.trans HP.out.old) hcw
        have C1 : Hid (Calls Try.prog 13 #[.pointer (some g), .int .i64 (fa j)] wr fun r w' => r = .returned (.tuple #[]) ∧ PlG V (.pointer (some g)) B E (rNs 0 fa (j + 1)) (rMs (-1) fa (j + 1)) w') := ptick_any (fa j) HP.out
        clear HP hcw
        go_wp2_with fail
        refine C1.out.mono ?_
        rintro r w3 ⟨rfl, HP⟩
        have HP3 : Hid (PlG V (.pointer (some g)) B E (rNs 0 fa (j + 1)) (rMs (-1) fa (j + 1)) w3) := HP
        clear HP C1 hc hl hv
        go_wp2
        go_roundw
        case rel => exact ⟨j + 1, hlt, by push_cast; rfl, HP3⟩
        case measure => exact lp_meas hlt
      · have hnl : ¬ (j : Int) < (na : Int) := by omega
        generalize rNs 0 fa j = N at HP
        generalize rMs (-1) fa j = M at HP
        obtain ⟨o, Ho⟩ : ∃ o, Hid (rO B E M ep = o) := ⟨_, rfl⟩
        have HOp : Hid (∀ N W, PlG V (.pointer (some g)) B E N M W → Calls Try.prog 16 #[.pointer (some g), .int .i64 ep] W fun r w' => r = .returned (.bool o) ∧ PlG V (.pointer (some g)) B E N M w') := fun N W h => by rw [← Ho.out]; exact popen_any ep h
        go_wp2_with fail
        refine (HOp.out _ _ HP.out).mono ?_
        rintro r w3 ⟨rfl, HP3⟩
        replace HP3 : Hid (PlG V (.pointer (some g)) B E N M w3) := HP3
        clear HP hl hv
        go_wp2_with fail
        refine (pcrash_any HP3.out).mono ?_
        rintro r w4 ⟨rfl, HP4⟩
        replace HP4 : Hid (PlG V (.pointer (some g)) B E 0 M w4) := HP4
        clear HP3
        go_wp2_with fail
        refine (HOp.out _ _ HP4.out).mono ?_
        rintro r w5 ⟨rfl, HP⟩
        have HP5 : Hid (PlG V (.pointer (some g)) B E (rNs 0 fb 0) (rMs M fb 0) w5) := HP
        clear HP HP4 HOp
        cases o with
        | true =>
          go_wp2_with fail
          go_loopw [11] (fun u11 wr => ∃ j : Nat, j ≤ nb ∧ u11 = .int .i64 j ∧ Hid (PlG V (.pointer (some g)) B E (rNs 0 fb j) (rMs M fb j) wr)) (fun u11 _ => nb - (intOf u11).toNat)
          case atStart => exact ⟨0, Nat.zero_le _, rfl, HP5⟩
          case round =>
            rename World => W0
            obtain ⟨i, hi, rfl, HP⟩ := hrel
            clear HP5
            by_cases hlt2 : i < nb
            · obtain ⟨q1, q0, qw⟩ := lp_nums i nb hlt2 (by omega)
              obtain ⟨bl, off, rfl, hbl, hcw⟩ := HB.out.get hlt2
              have hc := later (HE0.out.trans HP.out.old) hcw
              have C1 : Hid (∀ W, PlG V (.pointer (some g)) B E (rNs 0 fb i) (rMs M fb i) W → Calls Try.prog 13 #[.pointer (some g), .int .i64 (fb i)] W fun r w' => r = .returned (.tuple #[]) ∧ PlG V (.pointer (some g)) B E (rNs 0 fb (i + 1)) (rMs M fb (i + 1)) w') := fun W h => ptick_any (fb i) h
              clear hcw
              go_wp2_with fail
              refine (C1.out _ HP.out).mono ?_
              rintro r w6 ⟨rfl, HP6⟩
              replace HP6 : Hid (PlG V (.pointer (some g)) B E (rNs 0 fb (i + 1)) (rMs M fb (i + 1)) w6) := HP6
              clear HP C1 hc
              have C2 : Hid (∀ W, PlG V (.pointer (some g)) B E (rNs 0 fb (i + 1)) (rMs M fb (i + 1)) W → Calls Try.prog 16 #[.pointer (some g), .int .i64 ep] W fun r w' => r = .returned (.bool true) ∧ PlG V (.pointer (some g)) B E (rNs 0 fb (i + 1)) (rMs M fb (i + 1)) w') := fun W h => by rw [← rO_stays B E M ep fb Ho.out (i + 1)]; exact popen_any ep h
              go_wp2_with fail
              refine (C2.out _ HP6.out).mono ?_
              rintro r w7 ⟨rfl, HP7⟩
              replace HP7 : Hid (PlG V (.pointer (some g)) B E (rNs 0 fb (i + 1)) (rMs M fb (i + 1)) w7) := HP7
              clear HP6 C2
              go_wp2
              go_roundw
              case rel => exact ⟨i + 1, hlt2, by push_cast; rfl, HP7⟩
              case measure => exact lp_meas hlt2
            · have hnl : ¬ (i : Int) < (nb : Int) := by omega
              have HX := HE0.out.trans HP.out.old
              clear HP
              go_wp2_with fail
              refine (awake_any _).mono ?_
              rintro r w6 ⟨rfl, HX3⟩
              have HE3 : Hid (Ext w w6) := HX.trans HX3
              clear HX3 HX
              go_wp2
              go_ret
              exact ⟨rfl, HE3.out⟩
        | false =>
          go_wp2_with fail
          go_loopw [11] (fun u11 wr => ∃ j : Nat, j ≤ nb ∧ u11 = .int .i64 j ∧ Hid (PlG V (.pointer (some g)) B E (rNs 0 fb j) (rMs M fb j) wr)) (fun u11 _ => nb - (intOf u11).toNat)
          case atStart => exact ⟨0, Nat.zero_le _, rfl, HP5⟩
          case round =>
            rename World => W0
            obtain ⟨i, hi, rfl, HP⟩ := hrel
            clear HP5
            by_cases hlt2 : i < nb
            · obtain ⟨q1, q0, qw⟩ := lp_nums i nb hlt2 (by omega)
              obtain ⟨bl, off, rfl, hbl, hcw⟩ := HB.out.get hlt2
              have hc := later (HE0.out.trans HP.out.old) hcw
              have C1 : Hid (∀ W, PlG V (.pointer (some g)) B E (rNs 0 fb i) (rMs M fb i) W → Calls Try.prog 13 #[.pointer (some g), .int .i64 (fb i)] W fun r w' => r = .returned (.tuple #[]) ∧ PlG V (.pointer (some g)) B E (rNs 0 fb (i + 1)) (rMs M fb (i + 1)) w') := fun W h => ptick_any (fb i) h
              clear hcw
              go_wp2_with fail
              refine (C1.out _ HP.out).mono ?_
              rintro r w6 ⟨rfl, HP6⟩
              replace HP6 : Hid (PlG V (.pointer (some g)) B E (rNs 0 fb (i + 1)) (rMs M fb (i + 1)) w6) := HP6
              clear HP C1 hc
              go_wp2
              go_roundw
              case rel => exact ⟨i + 1, hlt2, by push_cast; rfl, HP6⟩
              case measure => exact lp_meas hlt2
            · have hnl : ¬ (i : Int) < (nb : Int) := by omega
              have HX := HE0.out.trans HP.out.old
              clear HP
              go_wp2_with fail
              refine (awake_any _).mono ?_
              rintro r w6 ⟨rfl, HX3⟩
              have HE3 : Hid (Ext w w6) := HX.trans HX3
              clear HX3 HX
              go_wp2
              go_ret
              exact ⟨rfl, HE3.out⟩
  · go_enter Try.func6, Try.ntmps6
    by_cases n1 : na ≤ 1000
    · have m1 : ¬ (1000 : Int) < (na : Int) := by omega
      have m2 : (1000 : Int) < (nb : Int) := by omega
      go_wp2_with fail
      refine (awake_any _).mono ?_
      rintro r w1 ⟨rfl, HX⟩
      have HE1 : Hid (Ext w w1) := HE0.out.trans HX
      clear HX HE0
      go_wp2
      go_ret
      exact ⟨rfl, HE1.out⟩
    · have m1 : (1000 : Int) < (na : Int) := by omega
      go_wp2_with fail
      refine (awake_any _).mono ?_
      rintro r w1 ⟨rfl, HX⟩
      have HE1 : Hid (Ext w w1) := HE0.out.trans HX
      clear HX HE0
      go_wp2
      go_ret
      exact ⟨rfl, HE1.out⟩
end Go.Proofs.Ytdpplmfgbglkhaa

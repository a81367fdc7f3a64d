/-
  WalBegins, WalGoesOn, called: true; nothing old is turned.
-/
import Derived.Test.YtbkdjpialjbhnaaLLaws
namespace Go.Proofs.Ytbkdjpialjbhnaa
open Go.RowKit
/-- The round of 'keep = keep<<1 | 1'. -/
theorem ones_step (i : Nat) (h : i < 64) : IntKind.u64.wrap (((2 ^ i - 1 : Nat) : Int) * 2) = ((2 * (2 ^ i - 1) : Nat) : Int) ∧ bits .or .u64 ((2 * (2 ^ i - 1) : Nat) : Int) 1 = ((2 ^ (i + 1) - 1 : Nat) : Int) := by
  have hp : 2 ^ i ≤ 2 ^ 63 := Nat.pow_le_pow_right (by decide) (by omega)
  have h1 : 1 ≤ 2 ^ i := Nat.one_le_two_pow
  have hz : 2 ^ (i + 1) - 1 = 2 * (2 ^ i - 1) + 1 := by rw [Nat.pow_succ]; omega
  rw [hz]
  generalize 2 ^ i - 1 = z at *
  have hz2 : z < 2 ^ 63 := by omega
  refine ⟨by rw [IntKind.wrap_u64]; omega, ?_⟩
  have := u64_or_nat (2 * z) 1 (by omega) (by decide)
  rw [show (1 : Int) = ((1 : Nat) : Int) from rfl, this]
  congr 1
  exact nat_join 1 (2 * z) 1 (by omega) (by omega)
theorem ones_lt (i : Nat) (h : i ≤ 64) : 2 ^ i - 1 < 18446744073709551616 := by
  have hp : 2 ^ i ≤ 2 ^ 64 := Nat.pow_le_pow_right (by decide) h
  omega
set_option maxHeartbeats 2000000 in
theorem walBegins_any (v : Value) (n : Nat) (k : Nat → Int) (x : Nat → ByteArray) (K : Nat → Nat) (c : Int) (w : World) (hL : ActsIs w v n k x K) :
    Calls Try.prog 4 #[v, .int .i64 c] w fun e w' => e = .returned (.bool true) ∧ Ext w w' := by
  have HL : Hid (ActsIs w v n k x K) := hL
  obtain ⟨a, cap, rfl, _⟩ := hL
  have HF : Hid (Calls Try.prog 8 #[.slice a n cap] w fun e w' => FewP x n w e w') := few_any _ n k x K w HL.out
  go_enter Try.func4, Try.ntmps4
  go_wp2_with fail
  refine HF.out.mono ?_
  rintro e w1 ⟨b, rfl, hb, HX⟩
  have HE1 : Hid (Ext w w1) := HX
  clear HX HF
  cases b with
  | false =>
    go_wp2_with fail
    refine (awake_any _).mono ?_
    rintro e w2 ⟨rfl, HX⟩
    have HE2 : Hid (Ext w w2) := HE1.out.trans HX
    clear HX
    go_wp2
    go_ret
    exact ⟨rfl, HE2.out⟩
  | true =>
    by_cases hc0 : c < 0
    · go_wp2_with fail
      refine (awake_any _).mono ?_
      rintro e w2 ⟨rfl, HX⟩
      have HE2 : Hid (Ext w w2) := HE1.out.trans HX
      clear HX
      go_wp2
      go_ret
      exact ⟨rfl, HE2.out⟩
    · by_cases hc1 : 64 < c
      · go_wp2_with fail
        refine (awake_any _).mono ?_
        rintro e w2 ⟨rfl, HX⟩
        have HE2 : Hid (Ext w w2) := HE1.out.trans HX
        clear HX
        go_wp2
        go_ret
        exact ⟨rfl, HE2.out⟩
      · obtain ⟨m, rfl⟩ : ∃ m : Nat, c = (m : Int) := ⟨c.toNat, by omega⟩
        have Hm : Hid (m ≤ 64) := by show _ ≤ _; omega
        have C0 : Hid (Calls Try.prog 20 #[.slice a n cap] w1 fun e w' => ∃ a, e = .returned (.pointer (some a)) ∧ PlU w (.pointer (some a)) (wDn k x n).1 (wDn k x n).2 (.slice none 0 0) [] w') := done_any _ n k x K (hb rfl).1 w w1 HE1.out HL.out
        have HOk : Hid (wOk (wDn k x n).1 (wDn k x n).2) := wDn_ok k x n
        generalize (wDn k x n).1 = l at *
        generalize (wDn k x n).2 = y at *
        clear hb
        go_wp2_with fail
        refine C0.out.mono ?_
        rintro e w2 ⟨da, rfl, HPx⟩
        have HP2 : Hid (PlU w (.pointer (some da)) l y (.slice none 0 0) [] w2) := HPx
        clear HPx C0 HE1
        go_wp2_with fail
        refine (uall_any HOk.out HP2.out).mono ?_
        rintro e w3 ⟨ua, uc, rfl, q3, HX⟩
        have HP3 : Hid (PlU w (.pointer (some da)) l y (.slice ua l.length uc) l w3) := HP2.out.take HX q3 (Nat.le_refl _)
        clear HP2 q3 HX
        go_wp2_with fail
        refine (usure_any HOk.out HP3.out).mono ?_
        rintro e w4 ⟨rfl, HX⟩
        have HP4 : Hid (PlU w (.pointer (some da)) l y (.slice ua l.length uc) l w4) := HP3.out.ext HX
        clear HP3 HX
        go_wp2_with fail
        go_loopw [8, 9] (fun u8 u9 wr => ∃ i : Nat, i ≤ m ∧ u9 = .int .i64 i ∧ u8 = .int .u64 ((2 ^ i - 1 : Nat) : Int) ∧ Hid (PlU w (.pointer (some da)) l y (.slice ua l.length uc) l wr)) (fun _ u9 _ => m - (intOf u9).toNat)
        case atStart => exact ⟨0, Nat.zero_le _, rfl, rfl, HP4⟩
        case round =>
          obtain ⟨i, hi, rfl, rfl, HP⟩ := hrel
          clear HP4
          by_cases hlm : i < m
          · have p1 : (i : Int) < (m : Int) := by omega
            have p2 : IntKind.i64.wrap ((i : Int) + 1) = (i : Int) + 1 := by have := Hm.out; rw [IntKind.wrap_i64]; omega
            obtain ⟨p3, p4⟩ := ones_step i (by have := Hm.out; omega)
            generalize 2 * (2 ^ i - 1) = z at *
            generalize 2 ^ i - 1 = z0 at *
            obtain ⟨z1, hz1⟩ : ∃ z1, 2 ^ (i + 1) - 1 = z1 := ⟨_, rfl⟩
            have Hz1 : Hid (2 ^ (i + 1) - 1 = z1) := hz1
            rw [hz1] at p4
            clear hz1
            go_wp2
            go_roundw
            case rel => exact ⟨i + 1, hlm, by push_cast; rfl, by rw [Hz1.out], HP⟩
            case measure => exact lp_meas hlm
          · have him : i = m := by omega
            subst him
            have hnm : ¬ (i : Int) < (i : Int) := by omega
            have C3 : Hid (∀ W, PlU w (.pointer (some da)) l y (.slice ua l.length uc) l W → Calls Try.prog 13 #[.pointer (some da), .int .u64 ((2 ^ i - 1 : Nat) : Int)] W fun e w' => e = .returned (.tuple #[]) ∧ PlU w (.pointer (some da)) (wCr l y (2 ^ i - 1)) (wCr l y (2 ^ i - 1)).length (.slice ua l.length uc) l w') := fun W h => ucrash_any (2 ^ i - 1) HOk.out (ones_lt i Hm.out) h
            have HOk2 : Hid (wOk (wCr l y (2 ^ i - 1)) (wCr l y (2 ^ i - 1)).length) := wCr_ok HOk.out (2 ^ i - 1)
            obtain ⟨j, hj1, hj2, hj3⟩ := wCr_begins HOk.out i Hm.out
            generalize wCr l y (2 ^ i - 1) = l2 at *
            generalize 2 ^ i - 1 = z at *
            have hl2 : l2.length = j := by rw [hj3, List.length_take]; omega
            have HM : Hid (l2 = l.take j ++ []) := by show _ = _; rw [hj3, List.append_nil]
            clear hj3
            go_wp2_with fail
            refine (C3.out _ HP.out).mono ?_
            rintro e w5 ⟨rfl, HPx⟩
            have HP5 : Hid (PlU w (.pointer (some da)) l2 l2.length (.slice ua l.length uc) l w5) := HPx
            clear HP HPx C3
            go_wp2_with fail
            refine (uall_any HOk2.out HP5.out).mono ?_
            rintro e w6 ⟨ub, ud, rfl, q6, HX⟩
            have HR6 : Hid (w6.ownsRow w5.heap.size 9 1 (.slice ub l2.length ud) l2.length (tcs l2)) := q6
            have HP6 : Hid (PlU w (.pointer (some da)) l2 l2.length (.slice ua l.length uc) l w6) := HP5.out.ext HX
            clear HP5 HX q6
            have HT : Hid (∀ c2, Calls Try.prog 17 #[.slice ub l2.length ud, .slice ua l2.length c2] w6 fun e w' => e = .returned (.bool true) ∧ Ext w6 w') := fun c2 => by
              obtain ⟨s1, s2⟩ := same_cut HP6.out.row HR6.out hj2 HM.out c2 ud
              rw [hl2]
              exact rsame_any _ _ j _ (by have := HOk.out.few; omega) w6 s1 s2
            have CS : Hid (∀ W, PlU w (.pointer (some da)) l2 l2.length (.slice ua l.length uc) l W → Calls Try.prog 19 #[.pointer (some da)] W fun e w' => e = .returned (.int .i64 (l2.length : Int)) ∧ Ext W w') := fun W h => usure_any HOk2.out h
            have z2 := own_cap HP6.out.row
            clear HR6 HM
            generalize l2.length = j2 at *
            subst hl2
            have m1 : (y : Int) ≤ (j2 : Int) := by omega
            have m2 : (j2 : Int) ≤ (l.length : Int) := by omega
            have m3 : (0 : Int) ≤ (j2 : Int) := by omega
            have m4 : (j2 : Int) ≤ (uc : Int) := by omega
            go_wp2_with fail
            refine (HT.out _).mono ?_
            rintro e w7 ⟨rfl, HX⟩
            have HP7 : Hid (PlU w (.pointer (some da)) l2 j2 (.slice ua l.length uc) l w7) := HP6.out.ext HX
            clear HX HP6 HT
            go_wp2_with fail
            refine (CS.out _ HP7.out).mono ?_
            rintro e w8 ⟨rfl, HX⟩
            have HP8 : Hid (PlU w (.pointer (some da)) l2 j2 (.slice ua l.length uc) l w8) := HP7.out.ext HX
            clear HX HP7 CS
            go_wp2_with fail
            refine (awake_any _).mono ?_
            rintro e w9 ⟨rfl, HX⟩
            have HP9 : Hid (PlU w (.pointer (some da)) l2 j2 (.slice ua l.length uc) l w9) := HP8.out.ext HX
            clear HX HP8
            go_wp2
            go_ret
            exact ⟨rfl, HP9.out.old⟩
set_option maxHeartbeats 4000000 in
theorem walGoesOn_any (v : Value) (n : Nat) (k : Nat → Int) (x : Nat → ByteArray) (K : Nat → Nat) (s : ByteArray) (q0 q1 : Nat) (hq0 : q0 < 18446744073709551616) (hq1 : q1 < 18446744073709551616) (w : World) (hL : ActsIs w v n k x K) :
    Calls Try.prog 6 #[v, .string s, .agg #[.int .u64 (q0 : Int), .int .u64 (q1 : Int)]] w fun e w' => e = .returned (.bool true) ∧ Ext w w' := by
  obtain ⟨i0, hi, hz0, hz1, hz2⟩ := info_parts info9
  obtain ⟨W0, hW0⟩ : ∃ W0, w.alloc (.cells #[.int .u64 (q0 : Int), .int .u64 (q1 : Int)] 49) = W0 := ⟨_, rfl⟩
  have HW0 : Hid (w.alloc (.cells #[.int .u64 (q0 : Int), .int .u64 (q1 : Int)] 49) = W0) := hW0
  have HEw : Hid (Ext w W0) := by rw [← hW0]; exact (Ext.refl w).alloc _
  have HL : Hid (ActsIs W0 v n k x K) := hL.ext HEw.out
  have hk0 : W0.cell? ⟨w.heap.size, 0, none⟩ = some (.int .u64 (q0 : Int)) := by rw [← hW0, World.cell?_alloc_at _ _ _ _ rfl]; rfl
  have hk1 : W0.cell? ⟨w.heap.size, 1, none⟩ = some (.int .u64 (q1 : Int)) := by rw [← hW0, World.cell?_alloc_at _ _ _ _ rfl]; rfl
  have hkb : w.heap.size < W0.heap.size := by rw [← hW0]; simp
  have HK0 : Hid (W0.cell? ⟨w.heap.size, 0, none⟩ = some (.int .u64 (q0 : Int))) := hk0
  have HK1 : Hid (W0.cell? ⟨w.heap.size, 1, none⟩ = some (.int .u64 (q1 : Int))) := hk1
  have HKb : Hid (w.heap.size < W0.heap.size) := hkb
  clear hW0 hk0 hk1 hkb
  obtain ⟨a, cap, rfl, _⟩ := hL
  have HF : Hid (Calls Try.prog 8 #[.slice a n cap] W0 fun e w' => FewP x n W0 e w') := few_any _ n k x K W0 HL.out
  go_enter Try.func6, Try.ntmps6
  go_wp2_with fail
  rw [HW0.out]
  refine HF.out.mono ?_
  rintro e w1 ⟨b, rfl, hb, HX⟩
  have HE1 : Hid (Ext w w1) := HEw.out.trans HX
  have HE0 : Hid (Ext W0 w1) := HX
  clear HX HF HW0
  cases b with
  | false =>
    go_wp2_with fail
    refine (awake_any _).mono ?_
    rintro e w2 ⟨rfl, HX⟩
    have HE2 : Hid (Ext w w2) := HE1.out.trans HX
    clear HX
    go_wp2
    go_ret
    exact ⟨rfl, HE2.out⟩
  | true =>
    by_cases hs : 5000 < s.size
    · have h3 : (5000 : Int) < (s.size : Int) := by omega
      go_wp2_with fail
      refine (awake_any _).mono ?_
      rintro e w2 ⟨rfl, HX⟩
      have HE2 : Hid (Ext w w2) := HE1.out.trans HX
      clear HX
      go_wp2
      go_ret
      exact ⟨rfl, HE2.out⟩
    · have h3 : ¬ (5000 : Int) < (s.size : Int) := by omega
      have C0 : Hid (Calls Try.prog 20 #[.slice a n cap] w1 fun e w' => ∃ a, e = .returned (.pointer (some a)) ∧ PlU W0 (.pointer (some a)) (wDn k x n).1 (wDn k x n).2 (.slice none 0 0) [] w') := done_any _ n k x K (hb rfl).1 W0 w1 HE0.out HL.out
      have HOk : Hid (wOk (wDn k x n).1 (wDn k x n).2) := wDn_ok k x n
      generalize (wDn k x n).1 = l at *
      generalize (wDn k x n).2 = y at *
      have C1 : Hid (∀ W da, PlU W0 (.pointer (some da)) l y (.slice none 0 0) [] W → Calls Try.prog 13 #[.pointer (some da), .int .u64 (q0 : Int)] W fun e w' => e = .returned (.tuple #[]) ∧ PlU W0 (.pointer (some da)) (wCr l y q0) (wCr l y q0).length (.slice none 0 0) [] w') := fun W da h => ucrash_any q0 HOk.out hq0 h
      have HOk1 : Hid (wOk (wCr l y q0) (wCr l y q0).length) := wCr_ok HOk.out q0
      generalize wCr l y q0 = l1 at *
      have C2 : Hid (∀ W da u, PlU W0 (.pointer (some da)) l1 l1.length u l1 W → Calls Try.prog 16 #[.pointer (some da), .string s] W fun e w' => e = .returned (.int .i64 (wApp l1 s).2) ∧ PlU W0 (.pointer (some da)) (wApp l1 s).1 l1.length u l1 w') := fun W da u h => uappend_any s HOk1.out h
      have HOk2 : Hid (wOk (wApp l1 s).1 l1.length) := wApp_ok HOk1.out s
      have hcs := wApp_cases l1 s
      obtain ⟨l2, r, hlr⟩ : ∃ l2 r, wApp l1 s = (l2, r) := ⟨_, _, rfl⟩
      rw [hlr] at C2 HOk2 hcs
      have C2 : Hid (∀ W da u, PlU W0 (.pointer (some da)) l1 l1.length u l1 W → Calls Try.prog 16 #[.pointer (some da), .string s] W fun e w' => e = .returned (.int .i64 r) ∧ PlU W0 (.pointer (some da)) l2 l1.length u l1 w') := C2
      have HOk2 : Hid (wOk l2 l1.length) := HOk2
      have C3 : Hid (∀ W da u, PlU W0 (.pointer (some da)) l2 l1.length u l1 W → Calls Try.prog 11 #[.pointer (some da)] W fun e w' => e = .returned (.tuple #[]) ∧ PlU W0 (.pointer (some da)) l2 l2.length u l1 w') := fun W da u h => usync_any HOk2.out h
      have HOk3 : Hid (wOk l2 l2.length) := HOk2.out.all
      have C4 : Hid (∀ W da u, PlU W0 (.pointer (some da)) l2 l2.length u l1 W → Calls Try.prog 13 #[.pointer (some da), .int .u64 (q1 : Int)] W fun e w' => e = .returned (.tuple #[]) ∧ PlU W0 (.pointer (some da)) l2 l2.length u l1 w') := fun W da u h => by
        have := ucrash_any q1 HOk3.out hq1 h
        rw [wCr_all HOk3.out q1] at this
        exact this
      have HCs : Hid ((l2 = l1 ∧ r = 2) ∨ (l2 = l1 ∧ r = 7) ∨ (l2 = l1 ++ [s] ∧ r = 0)) := by
        rcases hcs with e | e | e
        · injection e with e1 e2; exact .inl ⟨e1, e2⟩
        · injection e with e1 e2; exact .inr (.inl ⟨e1, e2⟩)
        · injection e with e1 e2; exact .inr (.inr ⟨e1, e2⟩)
      clear hb hcs hlr HE1 HL
      go_wp2_with fail
      refine C0.out.mono ?_
      rintro e w2 ⟨da, rfl, HPx⟩
      have HP2 : Hid (PlU W0 (.pointer (some da)) l y (.slice none 0 0) [] w2) := HPx
      clear HPx C0 HE0
      have k0 := later HP2.out.old HK0.out
      have kb := Nat.lt_of_lt_of_le HKb.out HP2.out.old.size
      go_wp2_with fail
      refine (C1.out _ _ HP2.out).mono ?_
      rintro e w3 ⟨rfl, HPx⟩
      have HP3 : Hid (PlU W0 (.pointer (some da)) l1 l1.length (.slice none 0 0) [] w3) := HPx
      clear HPx C1 HP2 k0 kb HOk
      go_wp2_with fail
      refine (uall_any HOk1.out HP3.out).mono ?_
      rintro e w4 ⟨ua, uc, rfl, q4, HX⟩
      have HP4 : Hid (PlU W0 (.pointer (some da)) l1 l1.length (.slice ua l1.length uc) l1 w4) := HP3.out.take HX q4 (Nat.le_refl _)
      clear HP3 q4 HX
      go_wp2_with fail
      refine (C2.out _ _ _ HP4.out).mono ?_
      rintro e w5 ⟨rfl, HPx⟩
      have HP5 : Hid (PlU W0 (.pointer (some da)) l2 l1.length (.slice ua l1.length uc) l1 w5) := HPx
      clear HPx C2 HP4
      go_wp2_with fail
      refine (C3.out _ _ _ HP5.out).mono ?_
      rintro e w6 ⟨rfl, HPx⟩
      have HP6 : Hid (PlU W0 (.pointer (some da)) l2 l2.length (.slice ua l1.length uc) l1 w6) := HPx
      clear HPx C3 HP5 HOk2
      have k1 := later HP6.out.old HK1.out
      have kb := Nat.lt_of_lt_of_le HKb.out HP6.out.old.size
      go_wp2_with fail
      refine (C4.out _ _ _ HP6.out).mono ?_
      rintro e w7 ⟨rfl, HPx⟩
      have HP7 : Hid (PlU W0 (.pointer (some da)) l2 l2.length (.slice ua l1.length uc) l1 w7) := HPx
      clear HPx C4 HP6 k1 kb HK0 HK1 HKb
      have HL1 : Hid (l1.length ≤ 8192) := HOk1.out.few
      rcases HCs.out with ⟨e1, e2⟩ | ⟨e1, e2⟩ | ⟨e1, e2⟩
      · subst e2
        rw [← e1] at HP7 HL1
        clear HOk1 HCs
        have HP8 : Hid (PlU W0 (.pointer (some da)) l2 l2.length (.slice ua l2.length uc) l2 w7) := HP7.out
        clear HP7
        rw [← e1]
        clear e1
        go_wp2_with fail
        refine (uall_any HOk3.out HP8.out).mono ?_
        rintro e w9 ⟨ub, ud, rfl, q9, HX⟩
        have HT : Hid (Calls Try.prog 17 #[.slice ub l2.length ud, .slice ua l2.length uc] w9 fun e w' => e = .returned (.bool true) ∧ Ext w9 w') := rsame_any _ _ l2.length _ (by have := HOk3.out.few; omega) w9 (own_lies q9) (own_lies (own_ext HP8.out.row HX))
        have HE9 : Hid (Ext w w9) := HEw.out.trans (HP8.out.old.trans HX)
        clear q9 HX HP8
        go_wp2_with fail
        refine HT.out.mono ?_
        rintro e w10 ⟨rfl, HX⟩
        have HE10 : Hid (Ext w w10) := HE9.out.trans HX
        clear HX HT HE9
        go_wp2_with fail
        refine (awake_any _).mono ?_
        rintro e w11 ⟨rfl, HX⟩
        have HE2 : Hid (Ext w w11) := HE10.out.trans HX
        clear HX
        go_wp2
        go_ret
        exact ⟨rfl, HE2.out⟩
      · subst e2
        rw [← e1] at HP7 HL1
        clear HOk1 HCs
        have HP8 : Hid (PlU W0 (.pointer (some da)) l2 l2.length (.slice ua l2.length uc) l2 w7) := HP7.out
        clear HP7
        rw [← e1]
        clear e1
        go_wp2_with fail
        refine (uall_any HOk3.out HP8.out).mono ?_
        rintro e w9 ⟨ub, ud, rfl, q9, HX⟩
        have HT : Hid (Calls Try.prog 17 #[.slice ub l2.length ud, .slice ua l2.length uc] w9 fun e w' => e = .returned (.bool true) ∧ Ext w9 w') := rsame_any _ _ l2.length _ (by have := HOk3.out.few; omega) w9 (own_lies q9) (own_lies (own_ext HP8.out.row HX))
        have HE9 : Hid (Ext w w9) := HEw.out.trans (HP8.out.old.trans HX)
        clear q9 HX HP8
        go_wp2_with fail
        refine HT.out.mono ?_
        rintro e w10 ⟨rfl, HX⟩
        have HE10 : Hid (Ext w w10) := HE9.out.trans HX
        clear HX HT HE9
        go_wp2_with fail
        refine (awake_any _).mono ?_
        rintro e w11 ⟨rfl, HX⟩
        have HE2 : Hid (Ext w w11) := HE10.out.trans HX
        clear HX
        go_wp2
        go_ret
        exact ⟨rfl, HE2.out⟩
      · subst e2
        clear HCs HOk1
        have hl8 := HL1.out
        have HE2 : Hid (l2 = l1 ++ [s]) := e1
        clear e1
        go_wp2_with (first | (at_builtin; refine wpList_append_all _ rfl _ _ 29 rfl w7.heap.size 9 i0 (.string ⟨#[]⟩) 16 Try.underlying29 hi hz0 hz1 hz2 rfl rfl (.slice ua l1.length uc) l1.length 0 (tcs l1) rfl HP7.out.row (tcs_one l1) (ml_8192 hl8) ?c5 (Nat.le_refl _) ?_))
        case c5 => exact Nat.le_trans (Nat.mul_le_mul_right 16 hl8) (by decide)
        intro v3 w3' g1 g2 _
        have HX3 : Hid (Ext w7 w3') := Below.grown (Ext.refl w7) g2 (Nat.le_refl _) (fun k hk => by cases hk)
        have HO3 : Hid (w3'.ownsRow w7.heap.size 9 1 v3 l1.length (tcs l1)) := g1
        clear g1 g2
        go_wp2_with (first | (at_builtin; refine wpList_append_lies _ rfl _ _ 29 rfl w7.heap.size 9 i0 (.string ⟨#[]⟩) 1 16 Try.underlying29 hi hz0 hz1 hz2 rfl (by decide) v3 l1.length (tcs l1) rfl (HO3.out.alloc _) ⟨w3'.heap.size, 0, none⟩ 1 1 [.string s] rfl rfl ?c1 ?c3 (by decide) ?c4 ?c5 ?c2 _ rfl ?_))
        case c1 => exact news1 w3' _ _
        case c3 => exact one1 s
        case c4 => exact ml_small (by omega)
        case c5 => exact bt_small (by omega)
        case c2 => exact Nat.le_trans HX3.out.size (by simp)
        intro g cap2 w8 hown hgrow _ hlt8
        have HX8 : Ext w7 w8 := Ext.grown (HX3.out.alloc _) (HO3.out.alloc _) (Nat.le_refl _) hgrow
        have HO8 : w8.ownsRow w7.heap.size 9 1 (.slice (some ⟨g, 0, none⟩) (l1.length + 1) cap2) l2.length (tcs l2) := by
          rw [HE2.out, show (l1 ++ [s]).length = l1.length + 1 from by simp, show tcs (l1 ++ [s]) = tcs l1 ++ [.string s] from by simp [tcs]]
          exact hown
        have HP8 : Hid (PlU W0 (.pointer (some da)) l2 l2.length (.slice (some ⟨g, 0, none⟩) (l1.length + 1) cap2) l2 w8) := HP7.out.take HX8 HO8 (Nat.le_refl _)
        clear HX8 HO8 hown hgrow HO3 HX3 HP7
        go_wp2_with fail
        refine (uall_any HOk3.out HP8.out).mono ?_
        rintro e w9 ⟨ub, ud, rfl, q9, HX⟩
        have HT : Hid (Calls Try.prog 17 #[.slice ub l2.length ud, .slice (some ⟨g, 0, none⟩) (l1.length + 1) cap2] w9 fun e w' => e = .returned (.bool true) ∧ Ext w9 w') := rsame_any _ _ l2.length _ (by have := HOk3.out.few; omega) w9 (own_lies q9) (own_lies (own_ext HP8.out.row HX))
        have HE9 : Hid (Ext w w9) := HEw.out.trans (HP8.out.old.trans HX)
        clear q9 HX HP8
        go_wp2_with fail
        refine HT.out.mono ?_
        rintro e w10 ⟨rfl, HX⟩
        have HE10 : Hid (Ext w w10) := HE9.out.trans HX
        clear HX HT HE9
        go_wp2_with fail
        refine (awake_any _).mono ?_
        rintro e w11 ⟨rfl, HX⟩
        have HE2 : Hid (Ext w w11) := HE10.out.trans HX
        clear HX
        go_wp2
        go_ret
        exact ⟨rfl, HE2.out⟩
end Go.Proofs.Ytbkdjpialjbhnaa

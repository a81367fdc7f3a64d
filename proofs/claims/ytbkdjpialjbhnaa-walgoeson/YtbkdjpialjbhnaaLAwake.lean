/-
  sandglasslaw19.awake, done, called.
-/
import Derived.Test.YtbkdjpialjbhnaaWPl
namespace Go.Proofs.Ytbkdjpialjbhnaa
open Go.RowKit
/-- Nothing is kept: those that are sure. -/
theorem wCr_none {l : List ByteArray} {n : Nat} (h : wOk l n) : wCr l n 0 = l.take n := by
  have e : wR l n 0 = lg (l.take n) := (dcrash_none h.disk).trans (lg_take l n)
  unfold wCr
  rw [e, pf_lg _ (fun x hx => h.1 x (List.mem_of_mem_take hx))]
def exA : ByteArray := ⟨#[97, 98]⟩
def exC : ByteArray := ⟨#[99, 100]⟩
theorem ex_app1 : wApp [] exA = ([exA], 0) := wApp_good (by decide) (by decide)
theorem ex_app2 : wApp [exA] exC = ([exA, exC], 0) := wApp_good (by decide) (by
  have e : (lg [exA]).size = 10 := by
    show (frm exA ++ ⟨#[]⟩).size = 10
    rw [ByteArray.size_append, frm_size]; rfl
  rw [e]; decide)
theorem ex_ok0 : wOk [] 0 := wOk_nil
theorem ex_ok1 : wOk [exA] 0 := by have := wApp_ok ex_ok0 exA; rw [ex_app1] at this; exact this
theorem ex_ok2 : wOk [exA] 1 := ex_ok1.all
theorem ex_ok3 : wOk [exA, exC] 1 := by have := wApp_ok ex_ok2 exC; rw [ex_app2] at this; exact this
theorem ex_cr : wCr [exA, exC] 1 0 = [exA] := wCr_none ex_ok3
set_option maxHeartbeats 2000000 in
theorem awake_any (w : World) : Calls Try.prog 9 #[] w fun e w' => e = .returned (.bool true) ∧ Ext w w' := by
  have C0 : Hid (Calls Try.prog 10 #[] w fun e w' => ∃ a, e = .returned (.pointer (some a)) ∧ PlU w (.pointer (some a)) [] 0 (.slice none 0 0) [] w') := unew_any w w (Ext.refl w)
  have C1 : Hid (∀ W a, PlU w (.pointer (some a)) [] 0 (.slice none 0 0) [] W → Calls Try.prog 16 #[.pointer (some a), .string ⟨#[97, 98]⟩] W fun e w' => e = .returned (.int .i64 0) ∧ PlU w (.pointer (some a)) [exA] 0 (.slice none 0 0) [] w') := fun W a h => by
    have := uappend_any exA ex_ok0 h
    rw [ex_app1] at this
    exact this
  have C2 : Hid (∀ W a, PlU w (.pointer (some a)) [exA] 0 (.slice none 0 0) [] W → Calls Try.prog 11 #[.pointer (some a)] W fun e w' => e = .returned (.tuple #[]) ∧ PlU w (.pointer (some a)) [exA] 1 (.slice none 0 0) [] w') := fun W a h => usync_any ex_ok1 h
  have C3 : Hid (∀ W a, PlU w (.pointer (some a)) [exA] 1 (.slice none 0 0) [] W → Calls Try.prog 16 #[.pointer (some a), .string ⟨#[99, 100]⟩] W fun e w' => e = .returned (.int .i64 0) ∧ PlU w (.pointer (some a)) [exA, exC] 1 (.slice none 0 0) [] w') := fun W a h => by
    have := uappend_any exC ex_ok2 h
    rw [ex_app2] at this
    exact this
  have C4 : Hid (∀ W a, PlU w (.pointer (some a)) [exA, exC] 1 (.slice none 0 0) [] W → Calls Try.prog 19 #[.pointer (some a)] W fun e w' => e = .returned (.int .i64 1) ∧ Ext W w') := fun W a h => usure_any ex_ok3 h
  have C5 : Hid (∀ W a, PlU w (.pointer (some a)) [exA, exC] 1 (.slice none 0 0) [] W → Calls Try.prog 18 #[.pointer (some a)] W fun e w' => ∃ b c, e = .returned (.slice b 2 c) ∧ Ext W w') := fun W a h => by
    refine (uall_any ex_ok3 h).mono ?_
    rintro e w' ⟨b, c, rfl, _, HX⟩
    exact ⟨b, c, rfl, HX⟩
  have C6 : Hid (∀ W a, PlU w (.pointer (some a)) [exA, exC] 1 (.slice none 0 0) [] W → Calls Try.prog 13 #[.pointer (some a), .int .u64 0] W fun e w' => e = .returned (.tuple #[]) ∧ PlU w (.pointer (some a)) [exA] 1 (.slice none 0 0) [] w') := fun W a h => by
    have := ucrash_any 0 ex_ok3 (by decide) h
    rw [ex_cr] at this
    exact this
  have C7 : Hid (∀ W a, PlU w (.pointer (some a)) [exA] 1 (.slice none 0 0) [] W → Calls Try.prog 18 #[.pointer (some a)] W fun e w' => ∃ b c, e = .returned (.slice b 1 c) ∧ LiesT w' (.slice b 1 c) 1 (fun k => [exA].getD k ⟨#[]⟩) ∧ Ext W w') := fun W a h => by
    refine (uall_any ex_ok2 h).mono ?_
    rintro e w' ⟨b, c, rfl, q, HX⟩
    exact ⟨b, c, rfl, own_lies q, HX⟩
  have C8 : Hid (∀ W a, PlU w (.pointer (some a)) [exA] 1 (.slice none 0 0) [] W → Calls Try.prog 19 #[.pointer (some a)] W fun e w' => e = .returned (.int .i64 1) ∧ Ext W w') := fun W a h => usure_any ex_ok2 h
  go_enter Try.func9, Try.ntmps9
  go_wp2_with fail
  refine C0.out.mono ?_
  rintro e w1 ⟨a, rfl, HPx⟩
  have HP1 : Hid (PlU w (.pointer (some a)) [] 0 (.slice none 0 0) [] w1) := HPx
  clear HPx C0
  go_wp2_with fail
  refine (C1.out _ _ HP1.out).mono ?_
  rintro e w2 ⟨rfl, HPx⟩
  have HP2 : Hid (PlU w (.pointer (some a)) [exA] 0 (.slice none 0 0) [] w2) := HPx
  clear HPx C1 HP1
  go_wp2_with fail
  refine (C2.out _ _ HP2.out).mono ?_
  rintro e w3 ⟨rfl, HPx⟩
  have HP3 : Hid (PlU w (.pointer (some a)) [exA] 1 (.slice none 0 0) [] w3) := HPx
  clear HPx C2 HP2
  go_wp2_with fail
  refine (C3.out _ _ HP3.out).mono ?_
  rintro e w4 ⟨rfl, HPx⟩
  have HP4 : Hid (PlU w (.pointer (some a)) [exA, exC] 1 (.slice none 0 0) [] w4) := HPx
  clear HPx C3 HP3
  go_wp2_with fail
  refine (C4.out _ _ HP4.out).mono ?_
  rintro e w5 ⟨rfl, HX⟩
  have HP5 : Hid (PlU w (.pointer (some a)) [exA, exC] 1 (.slice none 0 0) [] w5) := HP4.out.ext HX
  clear HX C4 HP4
  go_wp2_with fail
  refine (C5.out _ _ HP5.out).mono ?_
  rintro e w6 ⟨ub, uc, rfl, HX⟩
  have HP6 : Hid (PlU w (.pointer (some a)) [exA, exC] 1 (.slice none 0 0) [] w6) := HP5.out.ext HX
  clear HX C5 HP5
  go_wp2_with fail
  refine (C6.out _ _ HP6.out).mono ?_
  rintro e w7 ⟨rfl, HPx⟩
  have HP7 : Hid (PlU w (.pointer (some a)) [exA] 1 (.slice none 0 0) [] w7) := HPx
  clear HPx C6 HP6
  go_wp2_with fail
  refine (C7.out _ _ HP7.out).mono ?_
  rintro e w8 ⟨vb, vc, rfl, q8, HX⟩
  have HP8 : Hid (PlU w (.pointer (some a)) [exA] 1 (.slice none 0 0) [] w8) := HP7.out.ext HX
  have HQ8 : Hid (LiesT w8 (.slice vb 1 vc) 1 (fun k => [exA].getD k ⟨#[]⟩)) := q8
  clear HX q8 C7 HP7
  have HT : Hid (Calls Try.prog 17 #[.slice vb 1 vc, .slice (some ⟨w8.heap.size, 0, none⟩) 1 1] (w8.alloc (.cells #[.string ⟨#[97, 98]⟩] 9)) fun e w' => e = .returned (.bool true) ∧ Ext (w8.alloc (.cells #[.string ⟨#[97, 98]⟩] 9)) w') := rsame_any _ _ 1 (fun k => [exA].getD k ⟨#[]⟩) (by decide) _ (HQ8.out.ext ((Ext.refl _).alloc _)) (lies_lit w8 [exA] 9 1 _ rfl)
  have HP9 : Hid (PlU w (.pointer (some a)) [exA] 1 (.slice none 0 0) [] (w8.alloc (.cells #[.string ⟨#[97, 98]⟩] 9))) := HP8.out.ext ((Ext.refl _).alloc _)
  clear HQ8 HP8
  go_wp2_with fail
  refine HT.out.mono ?_
  rintro e w10 ⟨rfl, HX⟩
  have HP10 : Hid (PlU w (.pointer (some a)) [exA] 1 (.slice none 0 0) [] w10) := HP9.out.ext HX
  clear HX HT HP9
  go_wp2_with fail
  refine (C8.out _ _ HP10.out).mono ?_
  rintro e w11 ⟨rfl, HX⟩
  have HE : Hid (Ext w w11) := HP10.out.old.trans HX
  clear HX C8 HP10
  go_wp2
  go_ret
  exact ⟨rfl, HE.out⟩
set_option maxHeartbeats 2000000 in
theorem done_any (v : Value) (n : Nat) (k : Nat → Int) (x : Nat → ByteArray) (K : Nat → Nat) (hn : n ≤ 40) (w W : World) (hW : Ext w W) (hL : ActsIs w v n k x K) :
    Calls Try.prog 20 #[v] W fun e w' => ∃ a, e = .returned (.pointer (some a)) ∧ PlU w (.pointer (some a)) (wDn k x n).1 (wDn k x n).2 (.slice none 0 0) [] w' := by
  have HL : Hid (ActsIs w v n k x K) := hL
  obtain ⟨a, cap, rfl, _⟩ := hL
  have Hn : Hid (n ≤ 100000) := by show _ ≤ _; omega
  have C0 : Hid (Calls Try.prog 10 #[] W fun e w' => ∃ a, e = .returned (.pointer (some a)) ∧ PlU w (.pointer (some a)) [] 0 (.slice none 0 0) [] w') := unew_any w W hW
  clear hW hn
  go_enter Try.func20, Try.ntmps20
  go_wp2_with fail
  refine C0.out.mono ?_
  rintro e w1 ⟨da, rfl, HPx⟩
  have HP0 : Hid (PlU w (.pointer (some da)) (wDn k x 0).1 (wDn k x 0).2 (.slice none 0 0) [] w1) := HPx
  clear HPx C0
  go_wp2_with fail
  go_loopw [4] (fun u4 wr => ∃ j : Nat, j ≤ n ∧ u4 = .int .i64 j ∧ Hid (PlU w (.pointer (some da)) (wDn k x j).1 (wDn k x j).2 (.slice none 0 0) [] wr)) (fun u4 _ => n - (intOf u4).toNat)
  case atStart => exact ⟨0, Nat.zero_le _, rfl, HP0⟩
  case round =>
    obtain ⟨j, hj, rfl, HP⟩ := hrel
    clear HP0
    by_cases hlt : j < n
    · obtain ⟨q1, q0, qw⟩ := lp_nums j n hlt Hn.out
      obtain ⟨g, off, rfl, hbl, hd0, hd1, hd2⟩ := (HL.out.ext HP.out.old).get hlt
      by_cases hk1 : k j = 1
      · have HD : Hid (∀ W, PlU w (.pointer (some da)) (wDn k x j).1 (wDn k x j).2 (.slice none 0 0) [] W → Calls Try.prog 11 #[.pointer (some da)] W fun e w' => e = .returned (.tuple #[]) ∧ PlU w (.pointer (some da)) (wDn k x (j + 1)).1 (wDn k x (j + 1)).2 (.slice none 0 0) [] w') := fun W h => by
          rw [wDn_sync hk1]
          exact usync_any (wDn_ok k x j) h
        go_wp2_with fail
        refine (HD.out _ HP.out).mono ?_
        rintro e w3 ⟨rfl, HPn⟩
        have HP3 : Hid _ := HPn
        clear HPn HP HD
        go_wp2
        go_roundw
        case rel => exact ⟨j + 1, hlt, by push_cast; rfl, HP3⟩
        case measure => exact lp_meas hlt
      · have HD : Hid (∀ W, PlU w (.pointer (some da)) (wDn k x j).1 (wDn k x j).2 (.slice none 0 0) [] W → Calls Try.prog 16 #[.pointer (some da), .string (x j)] W fun e w' => e = .returned (.int .i64 (wApp (wDn k x j).1 (x j)).2) ∧ PlU w (.pointer (some da)) (wDn k x (j + 1)).1 (wDn k x (j + 1)).2 (.slice none 0 0) [] w') := fun W h => by
          rw [wDn_app hk1]
          exact uappend_any (x j) (wDn_ok k x j) h
        go_wp2_with fail
        refine (HD.out _ HP.out).mono ?_
        rintro e w3 ⟨rfl, HPn⟩
        have HP3 : Hid _ := HPn
        clear HPn HP HD
        go_wp2
        go_roundw
        case rel => exact ⟨j + 1, hlt, by push_cast; rfl, HP3⟩
        case measure => exact lp_meas hlt
    · obtain rfl : j = n := by omega
      have hnl : ¬ (j : Int) < (j : Int) := by omega
      go_wp2
      go_ret
      exact ⟨da, rfl, HP.out⟩
end Go.Proofs.Ytbkdjpialjbhnaa

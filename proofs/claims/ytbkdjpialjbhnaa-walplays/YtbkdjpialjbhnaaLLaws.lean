/-
  WalNone, WalSure, called: true; nothing old is turned.
-/
import Derived.Test.YtbkdjpialjbhnaaLAwake
namespace Go.Proofs.Ytbkdjpialjbhnaa
open Go.RowKit
set_option maxHeartbeats 1000000 in
theorem walNone_any (s : ByteArray) (K : Nat) (w : World) :
    Calls Try.prog 7 #[.string s, .int .u64 (K : Int)] w fun e w' => e = .returned (.bool true) ∧ Ext w w' := by
  have HE0 : Hid (Ext w w) := Ext.refl w
  go_enter Try.func7, Try.ntmps7
  go_wp2_with fail
  refine (wsync_nil _).mono ?_
  rintro e w1 ⟨rfl, HX⟩
  have HE1 : Hid (Ext w w1) := HE0.out.trans HX
  clear HX HE0
  go_wp2_with fail
  refine (wcrash_nil K _).mono ?_
  rintro e w2 ⟨rfl, HX⟩
  have HE2 : Hid (Ext w w2) := HE1.out.trans HX
  clear HX HE1
  go_wp2_with fail
  refine (wappend_nil s _).mono ?_
  rintro e w3 ⟨rfl, HX⟩
  have HE3 : Hid (Ext w w3) := HE2.out.trans HX
  clear HX HE2
  go_wp2_with fail
  refine (wall_nil _).mono ?_
  rintro e w4 ⟨rfl, HX⟩
  have HE4 : Hid (Ext w w4) := HE3.out.trans HX
  clear HX HE3
  go_wp2_with fail
  refine (wsure_nil _).mono ?_
  rintro e w5 ⟨rfl, HX⟩
  have HE5 : Hid (Ext w w5) := HE4.out.trans HX
  clear HX HE4
  go_wp2_with fail
  refine (awake_any _).mono ?_
  rintro e w6 ⟨rfl, HX⟩
  have HE6 : Hid (Ext w w6) := HE5.out.trans HX
  clear HX HE5
  go_wp2
  go_ret
  exact ⟨rfl, HE6.out⟩
theorem getD_pre {l m : List ByteArray} {n k : Nat} (h : k < n) (hn : n ≤ l.length) : (l.take n ++ m).getD k ⟨#[]⟩ = l.getD k ⟨#[]⟩ := by
  have h1 : k < (l.take n).length := by rw [List.length_take]; omega
  rw [List.getD_eq_getElem?_getD, List.getD_eq_getElem?_getD, List.getElem?_append_left h1, List.getElem?_take_of_lt h]
/-- Two slices that are cut hold the same texts. -/
theorem same_cut {w : World} {b1 b2 : Nat} {a1 a2 : Option Addr} {c1 c2 : Nat} {l1 l2 m : List ByteArray} {n : Nat} (h1 : w.ownsRow b1 9 1 (.slice a1 l1.length c1) l1.length (tcs l1)) (h2 : w.ownsRow b2 9 1 (.slice a2 l2.length c2) l2.length (tcs l2)) (hn : n ≤ l1.length) (e : l2 = l1.take n ++ m) (d1 d2 : Nat) :
    LiesT w (.slice a2 n d2) n (fun k => l1.getD k ⟨#[]⟩) ∧ LiesT w (.slice a1 n d1) n (fun k => l1.getD k ⟨#[]⟩) := by
  have hz : n ≤ l2.length := by rw [e, List.length_append, List.length_take]; omega
  refine ⟨(own_cutT h2 hz d2).congr fun k hk => ?_, own_cutT h1 hn d1⟩
  have hk : k < n := by omega
  rw [e]
  exact congrArg Value.string (getD_pre hk hn)
set_option maxHeartbeats 2000000 in
theorem walSure_any (v : Value) (n : Nat) (k : Nat → Int) (x : Nat → ByteArray) (K : Nat → Nat) (q : Nat) (hq : q < 18446744073709551616) (w : World) (hL : ActsIs w v n k x K) :
    Calls Try.prog 5 #[v, .int .u64 (q : Int)] w fun e w' => e = .returned (.bool true) ∧ Ext w w' := by
  have HL : Hid (ActsIs w v n k x K) := hL
  obtain ⟨a, cap, rfl, _⟩ := hL
  have HF : Hid (Calls Try.prog 8 #[.slice a n cap] w fun e w' => FewP x n w e w') := few_any _ n k x K w HL.out
  go_enter Try.func5, Try.ntmps5
  go_wp2_with fail
  refine HF.out.mono ?_
  rintro e w1 ⟨b, rfl, hb, HX⟩
  have HE1 : Hid (Ext w w1) := HX
  clear HX HF
  cases b with
  | false =>
    go_wp2_with fail
    refine (awake_any _).mono ?_
    rintro e w2 ⟨rfl, HX⟩
    have HE2 : Hid (Ext w w2) := HE1.out.trans HX
    clear HX
    go_wp2
    go_ret
    exact ⟨rfl, HE2.out⟩
  | true =>
    have C0 : Hid (Calls Try.prog 20 #[.slice a n cap] w1 fun e w' => ∃ a, e = .returned (.pointer (some a)) ∧ PlU w (.pointer (some a)) (wDn k x n).1 (wDn k x n).2 (.slice none 0 0) [] w') := done_any _ n k x K (hb rfl).1 w w1 HE1.out HL.out
    have HOk : Hid (wOk (wDn k x n).1 (wDn k x n).2) := wDn_ok k x n
    generalize (wDn k x n).1 = l at *
    generalize (wDn k x n).2 = y at *
    have C3 : Hid (∀ W da u, PlU w (.pointer (some da)) l y u l W → Calls Try.prog 13 #[.pointer (some da), .int .u64 (q : Int)] W fun e w' => e = .returned (.tuple #[]) ∧ PlU w (.pointer (some da)) (wCr l y q) (wCr l y q).length u l w') := fun W da u h => ucrash_any q HOk.out hq h
    have HOk2 : Hid (wOk (wCr l y q) (wCr l y q).length) := wCr_ok HOk.out q
    obtain ⟨m, hm⟩ := wCr_sure HOk.out q
    generalize wCr l y q = l2 at *
    have HM : Hid (l2 = l.take y ++ m) := hm
    have hy := HOk.out.2.2
    have hy2 : y ≤ l2.length := by rw [hm, List.length_append, List.length_take]; omega
    clear hb hm
    go_wp2_with fail
    refine C0.out.mono ?_
    rintro e w2 ⟨da, rfl, HPx⟩
    have HP2 : Hid (PlU w (.pointer (some da)) l y (.slice none 0 0) [] w2) := HPx
    clear HPx C0 HE1
    go_wp2_with fail
    refine (uall_any HOk.out HP2.out).mono ?_
    rintro e w3 ⟨ua, uc, rfl, q3, HX⟩
    have HP3 : Hid (PlU w (.pointer (some da)) l y (.slice ua l.length uc) l w3) := HP2.out.take HX q3 (Nat.le_refl _)
    clear HP2 q3 HX
    go_wp2_with fail
    refine (usure_any HOk.out HP3.out).mono ?_
    rintro e w4 ⟨rfl, HX⟩
    have HP4 : Hid (PlU w (.pointer (some da)) l y (.slice ua l.length uc) l w4) := HP3.out.ext HX
    clear HP3 HX
    go_wp2_with fail
    refine (C3.out _ _ _ HP4.out).mono ?_
    rintro e w5 ⟨rfl, HPx⟩
    have HP5 : Hid (PlU w (.pointer (some da)) l2 l2.length (.slice ua l.length uc) l w5) := HPx
    clear HP4 HPx C3
    go_wp2_with fail
    refine (uall_any HOk2.out HP5.out).mono ?_
    rintro e w6 ⟨ub, ud, rfl, q6, HX⟩
    have HR6 : Hid (w6.ownsRow w5.heap.size 9 1 (.slice ub l2.length ud) l2.length (tcs l2)) := q6
    have HP6 : Hid (PlU w (.pointer (some da)) l2 l2.length (.slice ua l.length uc) l w6) := HP5.out.ext HX
    clear HP5 HX q6
    have HT : Hid (∀ W c1 c2, Ext w6 W → Calls Try.prog 17 #[.slice ub y c1, .slice ua y c2] W fun e w' => e = .returned (.bool true) ∧ Ext W w') := fun W c1 c2 h => by
      obtain ⟨s1, s2⟩ := same_cut HP6.out.row HR6.out hy HM.out c2 c1
      exact rsame_any _ _ y _ (by have := HOk.out.few; omega) W (s1.ext h) (s2.ext h)
    have z1 := own_cap HR6.out
    have z2 := own_cap HP6.out.row
    have m1 : (y : Int) ≤ (l.length : Int) := by omega
    have m2 : (y : Int) ≤ (l2.length : Int) := by omega
    have m3 : (0 : Int) ≤ (y : Int) := by omega
    have m4 : (y : Int) ≤ (ud : Int) := by omega
    have m5 : (y : Int) ≤ (uc : Int) := by omega
    have HW : Hid (Ext w w6) := HP6.out.old
    clear HP6 HR6 HM HOk HOk2 hy hy2 z1 z2
    go_wp2_with fail
    have HS : Ext w6 w6.drew := (Ext.refl w6).drew
    refine wp_region_noPanic ?_
    refine wp_region_held (S := Ext w6) (by kernel_rfl) ?_
    rw [show ({ w6 with drawn := w6.drawn + 1 } : World) = w6.drew from rfl]
    generalize w6.drew = x0 at *
    refine held_take (i := 0) (v := ?vs0) rfl (by kernel_rfl) (by kernel_rfl) (by kernel_rfl) (fun _ _ _ h => h) rfl ?hys0 HS ?rests0
    case hys0 => (intro wx hSx; go_simp; try with_reducible rfl)
    try simp only [Act.put, List.setIfInBounds_toArray, List.set_cons_zero, List.set_cons_succ]
    refine held_take (i := 1) (v := ?vs1) rfl (by kernel_rfl) (by kernel_rfl) (by kernel_rfl) (fun _ _ _ h => h) rfl ?hys1 HS ?rests1
    case hys1 => (intro wx hSx; go_simp; try with_reducible rfl)
    try simp only [Act.put, List.setIfInBounds_toArray, List.set_cons_zero, List.set_cons_succ]
    refine held_take (i := 2) (v := ?vs2) rfl (by kernel_rfl) (by kernel_rfl) (by kernel_rfl) (fun _ _ _ h => h) rfl ?hys2 HS ?rests2
    case hys2 => (intro wx hSx; go_simp; try with_reducible rfl)
    try simp only [Act.put, List.setIfInBounds_toArray, List.set_cons_zero, List.set_cons_succ]
    refine held_take (i := 3) (v := ?vs3) rfl (by kernel_rfl) (by kernel_rfl) (by kernel_rfl) (fun _ _ _ h => h) rfl ?hys3 HS ?rests3
    case hys3 => (intro wx hSx; go_simp; try with_reducible rfl)
    try simp only [Act.put, List.setIfInBounds_toArray, List.set_cons_zero, List.set_cons_succ]
    refine held_take (i := 4) (v := ?vs4) rfl (by kernel_rfl) (by kernel_rfl) (by kernel_rfl) (fun _ _ _ h => h) rfl ?hys4 HS ?rests4
    case hys4 => (intro wx hSx; go_simp; try with_reducible rfl)
    try simp only [Act.put, List.setIfInBounds_toArray, List.set_cons_zero, List.set_cons_succ]
    refine held_take (i := 5) (v := ?vs5) rfl (by kernel_rfl) (by kernel_rfl) (by kernel_rfl) (fun _ _ _ h => h) rfl ?hys5 HS ?rests5
    case hys5 => (intro wx hSx; go_simp; try with_reducible rfl)
    try simp only [Act.put, List.setIfInBounds_toArray, List.set_cons_zero, List.set_cons_succ]
    refine held_take (i := 6) (v := ?vs6) rfl (by kernel_rfl) (by kernel_rfl) (by kernel_rfl) (fun _ _ _ h => h) rfl ?hys6 HS ?rests6
    case hys6 => (intro wx hSx; go_simp; try with_reducible rfl)
    try simp only [Act.put, List.setIfInBounds_toArray, List.set_cons_zero, List.set_cons_succ]
    refine held_take (i := 7) (v := ?vs7) rfl (by kernel_rfl) (by kernel_rfl) (by kernel_rfl) (fun _ _ _ h => h) rfl ?hys7 HS ?rests7
    case hys7 => (intro wx hSx; go_simp; try with_reducible rfl)
    try simp only [Act.put, List.setIfInBounds_toArray, List.set_cons_zero, List.set_cons_succ]
    refine held_take (i := 8) (v := ?vs8) rfl (by kernel_rfl) (by kernel_rfl) (by kernel_rfl) (fun _ _ _ h => h) rfl ?hys8 HS ?rests8
    case hys8 => (intro wx hSx; go_simp; try with_reducible rfl)
    try simp only [Act.put, List.setIfInBounds_toArray, List.set_cons_zero, List.set_cons_succ]
    refine held_take (i := 9) (v := ?vs9) rfl (by kernel_rfl) (by kernel_rfl) (by kernel_rfl) (fun _ _ _ h => h) rfl ?hys9 HS ?rests9
    case hys9 => (intro wx hSx; go_simp; try with_reducible rfl)
    try simp only [Act.put, List.setIfInBounds_toArray, List.set_cons_zero, List.set_cons_succ]
    refine held_take (i := 10) (v := ?vs10) rfl (by kernel_rfl) (by kernel_rfl) (by kernel_rfl) (fun _ _ _ h => h) rfl ?hys10 HS ?rests10
    case hys10 => (intro wx hSx; go_simp; try with_reducible rfl)
    try simp only [Act.put, List.setIfInBounds_toArray, List.set_cons_zero, List.set_cons_succ]
    refine held_take (i := 11) (v := ?vs11) rfl (by kernel_rfl) (by kernel_rfl) (by kernel_rfl) (fun _ _ _ h => h) rfl ?hys11 HS ?rests11
    case hys11 => (intro wx hSx; go_simp; try with_reducible rfl)
    try simp only [Act.put, List.setIfInBounds_toArray, List.set_cons_zero, List.set_cons_succ]
    refine held_take (i := 12) (v := ?vs12) rfl (by kernel_rfl) (by kernel_rfl) (by kernel_rfl) (fun _ _ _ h => h) rfl ?hys12 HS ?rests12
    case hys12 => (intro wx hSx; go_simp; try with_reducible rfl)
    try simp only [Act.put, List.setIfInBounds_toArray, List.set_cons_zero, List.set_cons_succ]
    refine held_take (i := 13) (v := ?vs13) rfl (by kernel_rfl) (by kernel_rfl) (by kernel_rfl) (fun _ _ _ h => h) rfl ?hys13 HS ?rests13
    case hys13 => (intro wx hSx; go_simp; try with_reducible rfl)
    try simp only [Act.put, List.setIfInBounds_toArray, List.set_cons_zero, List.set_cons_succ]
    refine held_take (i := 14) (v := ?vs14) rfl (by kernel_rfl) (by kernel_rfl) (by kernel_rfl) (fun _ _ _ h => h) rfl ?hys14 HS ?rests14
    case hys14 => (intro wx hSx; go_simp; try with_reducible rfl)
    try simp only [Act.put, List.setIfInBounds_toArray, List.set_cons_zero, List.set_cons_succ]
    refine held_take (i := 15) (v := ?vs15) rfl (by kernel_rfl) (by kernel_rfl) (by kernel_rfl) (fun _ _ _ h => h) rfl ?hys15 HS ?rests15
    case hys15 => (intro wx hSx; go_simp; try with_reducible rfl)
    try simp only [Act.put, List.setIfInBounds_toArray, List.set_cons_zero, List.set_cons_succ]
    refine held_take (i := 16) (v := ?vs16) rfl (by kernel_rfl) (by kernel_rfl) (by kernel_rfl) (fun _ _ _ h => h) rfl ?hys16 HS ?rests16
    case hys16 => (intro wx hSx; go_simp; try with_reducible rfl)
    try simp only [Act.put, List.setIfInBounds_toArray, List.set_cons_zero, List.set_cons_succ]
    refine held_one (i := 17) (by kernel_rfl) rfl rfl (fun K hK => ?_)
    go_simp
    refine (HT.out _ _ _ HS).mono ?_
    rintro e x1 ⟨rfl, HX⟩
    have H1 := HS.trans HX
    clear HX
    try go_simp
    refine hK.out _ _ ⟨H1, ?_⟩
    clear hK K
    try simp only [Act.put, List.setIfInBounds_toArray, List.set_cons_zero, List.set_cons_succ]
    refine held_take (i := 18) (v := ?vs18) rfl (by kernel_rfl) (by kernel_rfl) (by kernel_rfl) (fun _ _ _ h => h) rfl ?hys18 H1 ?rests18
    case hys18 => (intro wx hSx; go_simp; try with_reducible rfl)
    try simp only [Act.put, List.setIfInBounds_toArray, List.set_cons_zero, List.set_cons_succ]
    refine held_take (i := 19) (v := ?vs19) rfl (by kernel_rfl) (by kernel_rfl) (by kernel_rfl) (fun _ _ _ h => h) rfl ?hys19 H1 ?rests19
    case hys19 => (intro wx hSx; go_simp; try with_reducible rfl)
    try simp only [Act.put, List.setIfInBounds_toArray, List.set_cons_zero, List.set_cons_succ]
    refine held_one (i := 20) (by kernel_rfl) rfl rfl (fun K hK => ?_)
    go_simp
    refine (awake_any _).mono ?_
    rintro e x2 ⟨rfl, HX⟩
    have H2 := H1.trans HX
    clear HX
    try go_simp
    refine hK.out _ _ ⟨H2, ?_⟩
    clear hK K
    try simp only [Act.put, List.setIfInBounds_toArray, List.set_cons_zero, List.set_cons_succ]
    refine held_take (i := 21) (v := ?vs21) rfl (by kernel_rfl) (by kernel_rfl) (by kernel_rfl) (fun _ _ _ h => h) rfl ?hys21 H2 ?rests21
    case hys21 => (intro wx hSx; go_simp; try with_reducible rfl)
    try simp only [Act.put, List.setIfInBounds_toArray, List.set_cons_zero, List.set_cons_succ]
    refine held_take (i := 22) (v := ?vs22) rfl (by kernel_rfl) (by kernel_rfl) (by kernel_rfl) (fun _ _ _ h => h) rfl ?hys22 H2 ?rests22
    case hys22 => (intro wx hSx; go_simp; try with_reducible rfl)
    try simp only [Act.put, List.setIfInBounds_toArray, List.set_cons_zero, List.set_cons_succ]
    refine wpAnyH_done (by kernel_rfl) ?_ _
    refine NoPanic.normal ?_
    go_wp2
    go_ret
    exact ⟨rfl, HW.out.trans H2⟩
end Go.Proofs.Ytbkdjpialjbhnaa

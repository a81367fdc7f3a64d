/-
 awake, called; CouncilNone.
-/
import Derived.Test.YtkfpmjepeikpjaaLs
namespace Go.Proofs.Ytkfpmjepeikpjaa
open Go.RowKit Go.Maps
set_option maxRecDepth 10000
theorem CI.dl {q : Cp} {c : Cn} {k : Nat} (h : CI q c k) : ∀ n, CI q (dlC q c n) (k + n)
 | 0 => h
 | n + 1 => (h.dl n).del 0
theorem del_false {q : Cp} {c : Cn} {i : Int} (h : (delC q c i).2 = false) : (delC q c i).1 = c ∧ c.wy = [] := by
 cases e : c.wy[atC c i]? with
 | none =>
  have : delC q c i = (c, false) := by unfold delC; rw [e]
  rw [this]
  exact ⟨rfl, wy_nil e⟩
 | some x =>
  have : (delC q c i).2 = true := by unfold delC; rw [e]
  rw [this] at h
  cases h
theorem dl_stop {q : Cp} {c : Cn} {i n : Nat} (h : (delC q (dlC q c i) 0).2 = false) (hn : i ≤ n) : (delC q (dlC q c i) 0).1 = dlC q c n := by
 obtain ⟨h1, h2⟩ := del_false h
 rw [h1, show n = i + (n - i) from by omega, dl_add]
 generalize dlC q c i = d at *
 obtain ⟨nd, wy⟩ := d
 have h2 : wy = [] := h2
 subst h2
 rw [dl_nil]
/-- calm, for any number that is enough. -/
theorem calm_at {q : Cp} (hq : okC q) {l : Nat} (hl : l < q.vals.length) (he : leadA q.n q.ht 0 = (l : Int) + 1) {n : Nat} (hn : q.vals.length * 1 + (q.vals.length * q.vals.length + q.vals.length * q.vals.length) ≤ n) : ∃ nd, dlC q (startC q q.vals.length) n = ⟨nd, []⟩ ∧ nd.length = q.vals.length ∧ ∀ k : Int, 1 ≤ k → k ≤ (q.vals.length : Int) → dcdC ⟨nd, []⟩ k = (q.vals[l]?.getD emp, true) := by
 obtain ⟨h1, h2⟩ := calm hq hl he hn
 refine ⟨_, h1, by unfold mixC; simp, fun k k1 k2 => ?_⟩
 unfold dcdC
 rw [if_pos ⟨k1, by unfold mixC; simpa using k2⟩]
 have hi : (k - 1).toNat < q.vals.length := by omega
 unfold mixC
 rw [List.getElem?_map, List.getElem?_range hi]
 show ((nsC (qmV q.n q.t) _ q.vals.length q.vals.length).dc, (nsC (qmV q.n q.t) _ q.vals.length q.vals.length).dn) = _
 unfold nsC
 simp only [if_pos h2, decide_eq_true h2]
abbrev aS : ByteArray := ⟨#[97]⟩
abbrev bS : ByteArray := ⟨#[98]⟩
abbrev cS : ByteArray := ⟨#[99]⟩
theorem aw_ok : okNew 4 1 0 [aS, bS, cS] := .inr ⟨by simp, rfl, fun i hi => by
 have hq : hasQ 4 1 := ⟨by decide, by decide, by decide, by decide⟩
 match i, hi with
 | 0, _ => exact ⟨hq, by decide, by decide, by decide, by decide, by decide, by decide⟩
 | 1, _ => exact ⟨hq, by decide, by decide, by decide, by decide, by decide, by decide⟩
 | 2, _ => exact ⟨hq, by decide, by decide, by decide, by decide, by decide, by decide⟩⟩
theorem aw_no : ¬ okNew 4 1 0 [aS] := fun h => by
 rcases h with ⟨h, _, _⟩ | ⟨_, h, _⟩
 · cases h
 · exact absurd h (by decide)
theorem aw_calm : ∃ nd, dlC (mkC 4 1 0 [aS, bS, cS]) (startC (mkC 4 1 0 [aS, bS, cS]) 3) 60 = ⟨nd, []⟩ ∧ nd.length = 3 ∧ ∀ k : Int, 1 ≤ k → k ≤ 3 → dcdC ⟨nd, []⟩ k = (aS, true) := by
 have e : mkC 4 1 0 [aS, bS, cS] = ⟨4, 1, 0, [aS, bS, cS]⟩ := mkC_ne (by simp)
 have hq := ok_new aw_ok
 rw [e] at hq ⊢
 exact calm_at (q := ⟨4, 1, 0, [aS, bS, cS]⟩) hq (l := 0) (by decide) rfl (n := 60) (by decide)
theorem vs3 (w : World) : VsIs (w.alloc (.cells #[.string aS, .string bS, .string cS] 9)) (some ⟨w.heap.size, 0, none⟩) [aS, bS, cS] := fun j B hj => by
 refine ⟨w.heap.size, 0, rfl, by simp, ?_⟩
 match j with
 | 0 => injection hj with hj; subst hj; rw [World.cell?_alloc_at _ _ _ _ rfl]; rfl
 | 1 => injection hj with hj; subst hj; rw [World.cell?_alloc_at _ _ _ _ rfl]; rfl
 | 2 => injection hj with hj; subst hj; rw [World.cell?_alloc_at _ _ _ _ rfl]; rfl
 | j + 3 => simp at hj
theorem vs1 (w : World) : VsIs (w.alloc (.cells #[.string aS] 9)) (some ⟨w.heap.size, 0, none⟩) [aS] := fun j B hj => by
 refine ⟨w.heap.size, 0, rfl, by simp, ?_⟩
 match j with
 | 0 => injection hj with hj; subst hj; rw [World.cell?_alloc_at _ _ _ _ rfl]; rfl
 | j + 1 => simp at hj
set_option maxHeartbeats 4000000 in
theorem awake_any (w : World) : Calls Try.prog 8 #[] w fun e w' => e = .returned (.bool true) ∧ Ext w w' := by
 have HE0 : Hid (Ext w (w.alloc (.cells #[.string aS, .string bS, .string cS] 9))) := (Ext.refl w).alloc _
 have HN : Hid (Calls Try.prog 9 #[.int .i64 4, .int .i64 1, .int .i64 0, .slice (some ⟨w.heap.size, 0, none⟩) 3 3] (w.alloc (.cells #[.string aS, .string bS, .string cS] 9)) fun e w' => NwC (w.alloc (.cells #[.string aS, .string bS, .string cS] 9)) 4 1 0 [aS, bS, cS] e w') := cnew_any (by decide) (by decide) (vs3 w) (by decide)
 have HN1 : Hid (∀ wx : World, Calls Try.prog 9 #[.int .i64 4, .int .i64 1, .int .i64 0, .slice (some ⟨wx.heap.size, 0, none⟩) 1 1] (wx.alloc (.cells #[.string aS] 9)) fun e w' => e = .returned (.pointer none) ∧ Ext wx w') := fun wx => by
  refine (cnew_any (vals := [aS]) (by decide) (by decide) (vs1 wx) (by decide)).mono ?_
  rintro e w' (⟨_, h1, h2⟩ | ⟨h, _⟩)
  · exact ⟨h1, ((Ext.refl wx).alloc _).trans h2⟩
  · exact absurd h aw_no
 go_enter Try.func8, Try.ntmps8
 go_wp2_with fail
 refine HN.out.mono ?_
 rintro e w1 (⟨h, _⟩ | ⟨_, cb, rfl, hy⟩)
 · exact absurd aw_ok h
 obtain ⟨w0, hw0⟩ : ∃ w0, w.alloc (.cells #[.string aS, .string bS, .string cS] 9) = w0 := ⟨_, rfl⟩
 rw [hw0] at HE0 hy
 have hq := ok_new aw_ok
 obtain ⟨nd, n1, n2, n3⟩ := aw_calm
 have HI : Hid (CI (mkC 4 1 0 [aS, bS, cS]) (startC (mkC 4 1 0 [aS, bS, cS]) 3) 0) := by
  have := CI.start hq
  rw [mk_vals] at this
  exact this
 have hy : CY w0 cb (mkC 4 1 0 [aS, bS, cS]) (startC (mkC 4 1 0 [aS, bS, cS]) 3) w1 := hy
 have HND : Hid (dlC (mkC 4 1 0 [aS, bS, cS]) (startC (mkC 4 1 0 [aS, bS, cS]) 3) 60 = ⟨nd, []⟩ ∧ nd.length = 3 ∧ ∀ k : Int, 1 ≤ k → k ≤ 3 → dcdC ⟨nd, []⟩ k = (aS, true)) := ⟨n1, n2, n3⟩
 have HY : Hid (CY w0 cb (mkC 4 1 0 [aS, bS, cS]) (startC (mkC 4 1 0 [aS, bS, cS]) 3) w1) := hy
 have hcb : cb < w1.heap.size := by obtain ⟨_, _, h⟩ := hy; exact h.honest.1
 clear HN hy hw0 hq n1 n2 n3
 generalize startC (mkC 4 1 0 [aS, bS, cS]) 3 = c0 at *
 generalize mkC 4 1 0 [aS, bS, cS] = q at *
 go_wp2_with fail
 refine (HN1.out w1).mono ?_
 rintro e w2 ⟨rfl, hx⟩
 have HY2 : Hid (CY w0 cb q c0 w2) := HY.out.ext hx
 clear HY hx HN1 hcb
 go_wp2_with fail
 go_loopw [2] (fun u2 wr => ∃ i : Nat, i ≤ 60 ∧ u2 = .int .i64 i ∧ Hid (CY w0 cb q (dlC q c0 i) wr)) (fun u2 _ => 60 - (intOf u2).toNat)
 case atStart => exact ⟨0, Nat.zero_le _, rfl, HY2⟩
 case round =>
  obtain ⟨i, hi, rfl, HX⟩ := hrel
  by_cases hli : i < 60
  · have p1 : (i : Int) < 60 := by omega
    have pw : IntKind.i64.wrap ((i : Int) + 1) = (i : Int) + 1 := by rw [IntKind.wrap_i64]; omega
    have Hli : Hid (i < 60) := hli
    have HDv : Hid (Calls Try.prog 13 #[.pointer (some ⟨cb, 0, none⟩), .int .i64 0] wr fun e w' => e = .returned (.bool (delC q (dlC q c0 i) 0).2) ∧ CY w0 cb q (delC q (dlC q c0 i) 0).1 w') := deliver_any HX.out (HI.out.dl i) (by omega) 0
    clear hi hli
    cases hb : (delC q (dlC q c0 i) 0).2 with
    | true =>
     rw [hb] at HDv
     clear hb
     go_wp2_with fail
     refine HDv.out.mono ?_
     rintro e w4 ⟨rfl, hy4⟩
     have HY4 : Hid (CY w0 cb q (dlC q c0 (i + 1)) w4) := hy4
     clear hy4 HX HDv
     go_wp2_with fail
     go_roundw
     case rel => exact ⟨i + 1, Hli.out, by push_cast; rfl, HY4⟩
     case measure => exact lp_meas (n := 60) Hli.out
    | false =>
     rw [hb, dl_stop hb (Nat.le_of_lt Hli.out), HND.out.1] at HDv
     clear hb
     go_wp2_with fail
     refine HDv.out.mono ?_
     rintro e wr' ⟨rfl, hy4⟩
     have HX4 : Hid (CY w0 cb q ⟨nd, []⟩ wr') := hy4
     clear hy4 HDv
     clear HX
     rename World => wr
     have HX := HX4
     clear HX4
     have HYF : Hid (CY w0 cb q ⟨nd, []⟩ wr) := HX
     have HIF : Hid (CI q ⟨nd, []⟩ 60) := by
      have := HI.out.dl 60
      rw [HND.out.1] at this
      exact this
     clear HY2 HX
     go_wp2_with fail
     go_loopw [3] (fun u3 wr => ∃ k : Nat, k ≤ 3 ∧ u3 = .int .i64 ((k : Int) + 1) ∧ Hid (CY w0 cb q ⟨nd, []⟩ wr)) (fun u3 _ => 4 - (intOf u3).toNat)
     case atStart => exact ⟨0, by decide, rfl, HYF⟩
     case round =>
      obtain ⟨k, hk, rfl, HYL⟩ := hrel
      clear HYF
      by_cases hk3 : k < 3
      · have HD : Hid (Calls Try.prog 11 #[.pointer (some ⟨cb, 0, none⟩), .int .i64 ((k : Int) + 1)] wr fun e w' => e = .returned (.tuple #[.string aS, .bool true]) ∧ Ext wr w') := by
         have := decided_any HYL.out HIF.out ((k : Int) + 1)
         rw [HND.out.2.2 _ (by omega) (by omega)] at this
         exact this
        have q1 : (k : Int) + 1 ≤ 3 := by omega
        have q2 : IntKind.i64.wrap ((k : Int) + 1 + 1) = (k : Int) + 1 + 1 := by rw [IntKind.wrap_i64]; omega
        have Hk : Hid (k + 1 ≤ 3) := hk3
        have Hm : Hid (4 - (intOf (.int .i64 ((k : Int) + 1 + 1))).toNat < 4 - (intOf (.int .i64 ((k : Int) + 1))).toNat) := by show 4 - ((k : Int) + 1 + 1).toNat < 4 - ((k : Int) + 1).toNat; omega
        clear hk hk3
        go_wp2_with fail
        refine HD.out.mono ?_
        rintro e w5 ⟨rfl, hx5⟩
        have HYN : Hid (CY w0 cb q ⟨nd, []⟩ w5) := HYL.out.ext hx5
        clear HYL hx5 HD
        go_wp2_with fail
        go_roundw
        case rel => exact ⟨k + 1, Hk.out, by push_cast; rfl, HYN⟩
        case measure => exact Hm.out
      · have q1 : ¬ (k : Int) + 1 ≤ 3 := by omega
        have HWt : Hid (Calls Try.prog 14 #[.pointer (some ⟨cb, 0, none⟩)] wr fun e w' => e = .returned (.int .i64 0) ∧ w' = wr) := waiting_any HYL.out
        have HDv : Hid (Calls Try.prog 13 #[.pointer (some ⟨cb, 0, none⟩), .int .i64 0] wr fun e w' => e = .returned (.bool false) ∧ CY w0 cb q ⟨nd, []⟩ w') := by
         have := deliver_any HYL.out HIF.out (by decide) 0
         rw [del_nil] at this
         exact this
        have HLs : Hid (∀ wx, CY w0 cb q ⟨nd, []⟩ wx → Calls Try.prog 15 #[.pointer (some ⟨cb, 0, none⟩), .int .i64 0] wx fun e w' => e = .returned (.bool false) ∧ CY w0 cb q ⟨nd, []⟩ w') := fun wx hy => by
         have := lose_any hy 0
         have e : losC ⟨nd, []⟩ 0 = (⟨nd, []⟩, false) := by unfold losC; rw [show (⟨nd, []⟩ : Cn).wy[atC ⟨nd, []⟩ 0]? = none from List.getElem?_nil]
         rw [e] at this
         exact this
        have hq3 : q.vals.length = 3 := by rw [← HIF.out.len]; exact HND.out.2.1
        have HF1 : Hid (∀ wx, CY w0 cb q ⟨nd, []⟩ wx → Calls Try.prog 16 #[.pointer (some ⟨cb, 0, none⟩), .int .i64 1, .agg #[.int .i64 2, .int .i64 4, .int .i64 0, .int .i64 0, .string ⟨#[]⟩]] wx fun e w' => e = .returned (.bool true) ∧ CY w0 cb q ⟨nd, [(1, ⟨2, 4, 0, 0, emp⟩)]⟩ w') := fun wx hy => by
         have := forge_any hy (by rw [hq3]; exact HND.out.2.1) 1 ⟨2, 4, 0, 0, emp⟩ (by decide)
         have e : forC ⟨nd, []⟩ 1 ⟨2, 4, 0, 0, emp⟩ = (⟨nd, [(1, ⟨2, 4, 0, 0, emp⟩)]⟩, true) := by
          unfold forC
          rw [if_pos ⟨⟨by decide, by show (1 : Int) ≤ (nd.length : Int); rw [HND.out.2.1]; decide⟩, fun z => absurd z.2 (by show ¬ (4 : Int) ≤ (nd.length : Int); rw [HND.out.2.1]; decide), by decide, (by decide : 0 < 4096)⟩]
          rfl
         rw [e] at this
         exact this
        have HF2 : Hid (∀ wx, CY w0 cb q ⟨nd, [(1, ⟨2, 4, 0, 0, emp⟩)]⟩ wx → Calls Try.prog 16 #[.pointer (some ⟨cb, 0, none⟩), .int .i64 1, .agg #[.int .i64 0, .int .i64 2, .int .i64 0, .int .i64 0, .string ⟨#[]⟩]] wx fun e w' => e = .returned (.bool false) ∧ CY w0 cb q ⟨nd, [(1, ⟨2, 4, 0, 0, emp⟩)]⟩ w') := fun wx hy => by
         have := forge_any hy (by rw [hq3]; exact HND.out.2.1) 1 ⟨0, 2, 0, 0, emp⟩ (by decide)
         have e : forC ⟨nd, [(1, ⟨2, 4, 0, 0, emp⟩)]⟩ 1 ⟨0, 2, 0, 0, emp⟩ = (⟨nd, [(1, ⟨2, 4, 0, 0, emp⟩)]⟩, false) := by
          unfold forC
          rw [if_neg (fun z => z.2.1 ⟨by decide, by show (2 : Int) ≤ (nd.length : Int); rw [HND.out.2.1]; decide⟩)]
         rw [e] at this
         exact this
        have HW2 : Hid (∀ wx, CY w0 cb q ⟨nd, [(1, ⟨2, 4, 0, 0, emp⟩)]⟩ wx → Calls Try.prog 14 #[.pointer (some ⟨cb, 0, none⟩)] wx fun e w' => e = .returned (.int .i64 1) ∧ w' = wx) := fun wx hy => waiting_any hy
        clear hk hk3 hq3
        go_wp2_with fail
        refine HWt.out.mono ?_
        rintro e w5 ⟨rfl, rfl⟩
        go_wp2_with fail
        refine HDv.out.mono ?_
        rintro e w6 ⟨rfl, hy6⟩
        have HY6 : Hid (CY w0 cb q ⟨nd, []⟩ w6) := hy6
        clear hy6 HYL HWt HDv
        go_wp2_with fail
        refine (HLs.out _ HY6.out).mono ?_
        rintro e w7 ⟨rfl, hy7⟩
        have HY7 : Hid (CY w0 cb q ⟨nd, []⟩ w7) := hy7
        clear hy7 HY6
        go_wp2_with fail
        refine (HF1.out _ HY7.out).mono ?_
        rintro e w8 ⟨rfl, hy8⟩
        have HY8 : Hid (CY w0 cb q ⟨nd, [(1, ⟨2, 4, 0, 0, emp⟩)]⟩ w8) := hy8
        clear hy8 HY7
        go_wp2_with fail
        refine (HF2.out _ HY8.out).mono ?_
        rintro e w9 ⟨rfl, hy9⟩
        have HY9 : Hid (CY w0 cb q ⟨nd, [(1, ⟨2, 4, 0, 0, emp⟩)]⟩ w9) := hy9
        clear hy9 HY8
        go_wp2_with fail
        refine (HW2.out _ HY9.out).mono ?_
        rintro e w10 ⟨rfl, hx10⟩
        have HE9 : Hid (Ext w w10) := by rw [hx10]; exact HE0.out.trans HY9.out.old
        clear hx10 HY9
        go_wp2
        go_ret
        exact ⟨rfl, HE9.out⟩
  · obtain rfl : i = 60 := by omega
    have p1 : ¬ ((60 : Nat) : Int) < 60 := by decide
    have HX4 : Hid (CY w0 cb q ⟨nd, []⟩ wr) := by have := HX.out; rw [HND.out.1] at this; exact this
    clear HX hi hli
    have HX := HX4
    clear HX4
    have HYF : Hid (CY w0 cb q ⟨nd, []⟩ wr) := HX
    have HIF : Hid (CI q ⟨nd, []⟩ 60) := by
     have := HI.out.dl 60
     rw [HND.out.1] at this
     exact this
    clear HY2 HX
    go_wp2_with fail
    go_loopw [3] (fun u3 wr => ∃ k : Nat, k ≤ 3 ∧ u3 = .int .i64 ((k : Int) + 1) ∧ Hid (CY w0 cb q ⟨nd, []⟩ wr)) (fun u3 _ => 4 - (intOf u3).toNat)
    case atStart => exact ⟨0, by decide, rfl, HYF⟩
    case round =>
     obtain ⟨k, hk, rfl, HYL⟩ := hrel
     clear HYF
     by_cases hk3 : k < 3
     · have HD : Hid (Calls Try.prog 11 #[.pointer (some ⟨cb, 0, none⟩), .int .i64 ((k : Int) + 1)] wr fun e w' => e = .returned (.tuple #[.string aS, .bool true]) ∧ Ext wr w') := by
        have := decided_any HYL.out HIF.out ((k : Int) + 1)
        rw [HND.out.2.2 _ (by omega) (by omega)] at this
        exact this
       have q1 : (k : Int) + 1 ≤ 3 := by omega
       have q2 : IntKind.i64.wrap ((k : Int) + 1 + 1) = (k : Int) + 1 + 1 := by rw [IntKind.wrap_i64]; omega
       have Hk : Hid (k + 1 ≤ 3) := hk3
       have Hm : Hid (4 - (intOf (.int .i64 ((k : Int) + 1 + 1))).toNat < 4 - (intOf (.int .i64 ((k : Int) + 1))).toNat) := by show 4 - ((k : Int) + 1 + 1).toNat < 4 - ((k : Int) + 1).toNat; omega
       clear hk hk3
       go_wp2_with fail
       refine HD.out.mono ?_
       rintro e w5 ⟨rfl, hx5⟩
       have HYN : Hid (CY w0 cb q ⟨nd, []⟩ w5) := HYL.out.ext hx5
       clear HYL hx5 HD
       go_wp2_with fail
       go_roundw
       case rel => exact ⟨k + 1, Hk.out, by push_cast; rfl, HYN⟩
       case measure => exact Hm.out
     · have q1 : ¬ (k : Int) + 1 ≤ 3 := by omega
       have HWt : Hid (Calls Try.prog 14 #[.pointer (some ⟨cb, 0, none⟩)] wr fun e w' => e = .returned (.int .i64 0) ∧ w' = wr) := waiting_any HYL.out
       have HDv : Hid (Calls Try.prog 13 #[.pointer (some ⟨cb, 0, none⟩), .int .i64 0] wr fun e w' => e = .returned (.bool false) ∧ CY w0 cb q ⟨nd, []⟩ w') := by
        have := deliver_any HYL.out HIF.out (by decide) 0
        rw [del_nil] at this
        exact this
       have HLs : Hid (∀ wx, CY w0 cb q ⟨nd, []⟩ wx → Calls Try.prog 15 #[.pointer (some ⟨cb, 0, none⟩), .int .i64 0] wx fun e w' => e = .returned (.bool false) ∧ CY w0 cb q ⟨nd, []⟩ w') := fun wx hy => by
        have := lose_any hy 0
        have e : losC ⟨nd, []⟩ 0 = (⟨nd, []⟩, false) := by unfold losC; rw [show (⟨nd, []⟩ : Cn).wy[atC ⟨nd, []⟩ 0]? = none from List.getElem?_nil]
        rw [e] at this
        exact this
       have hq3 : q.vals.length = 3 := by rw [← HIF.out.len]; exact HND.out.2.1
       have HF1 : Hid (∀ wx, CY w0 cb q ⟨nd, []⟩ wx → Calls Try.prog 16 #[.pointer (some ⟨cb, 0, none⟩), .int .i64 1, .agg #[.int .i64 2, .int .i64 4, .int .i64 0, .int .i64 0, .string ⟨#[]⟩]] wx fun e w' => e = .returned (.bool true) ∧ CY w0 cb q ⟨nd, [(1, ⟨2, 4, 0, 0, emp⟩)]⟩ w') := fun wx hy => by
        have := forge_any hy (by rw [hq3]; exact HND.out.2.1) 1 ⟨2, 4, 0, 0, emp⟩ (by decide)
        have e : forC ⟨nd, []⟩ 1 ⟨2, 4, 0, 0, emp⟩ = (⟨nd, [(1, ⟨2, 4, 0, 0, emp⟩)]⟩, true) := by
         unfold forC
         rw [if_pos ⟨⟨by decide, by show (1 : Int) ≤ (nd.length : Int); rw [HND.out.2.1]; decide⟩, fun z => absurd z.2 (by show ¬ (4 : Int) ≤ (nd.length : Int); rw [HND.out.2.1]; decide), by decide, (by decide : 0 < 4096)⟩]
         rfl
        rw [e] at this
        exact this
       have HF2 : Hid (∀ wx, CY w0 cb q ⟨nd, [(1, ⟨2, 4, 0, 0, emp⟩)]⟩ wx → Calls Try.prog 16 #[.pointer (some ⟨cb, 0, none⟩), .int .i64 1, .agg #[.int .i64 0, .int .i64 2, .int .i64 0, .int .i64 0, .string ⟨#[]⟩]] wx fun e w' => e = .returned (.bool false) ∧ CY w0 cb q ⟨nd, [(1, ⟨2, 4, 0, 0, emp⟩)]⟩ w') := fun wx hy => by
        have := forge_any hy (by rw [hq3]; exact HND.out.2.1) 1 ⟨0, 2, 0, 0, emp⟩ (by decide)
        have e : forC ⟨nd, [(1, ⟨2, 4, 0, 0, emp⟩)]⟩ 1 ⟨0, 2, 0, 0, emp⟩ = (⟨nd, [(1, ⟨2, 4, 0, 0, emp⟩)]⟩, false) := by
         unfold forC
         rw [if_neg (fun z => z.2.1 ⟨by decide, by show (2 : Int) ≤ (nd.length : Int); rw [HND.out.2.1]; decide⟩)]
        rw [e] at this
        exact this
       have HW2 : Hid (∀ wx, CY w0 cb q ⟨nd, [(1, ⟨2, 4, 0, 0, emp⟩)]⟩ wx → Calls Try.prog 14 #[.pointer (some ⟨cb, 0, none⟩)] wx fun e w' => e = .returned (.int .i64 1) ∧ w' = wx) := fun wx hy => waiting_any hy
       clear hk hk3 hq3
       go_wp2_with fail
       refine HWt.out.mono ?_
       rintro e w5 ⟨rfl, rfl⟩
       go_wp2_with fail
       refine HDv.out.mono ?_
       rintro e w6 ⟨rfl, hy6⟩
       have HY6 : Hid (CY w0 cb q ⟨nd, []⟩ w6) := hy6
       clear hy6 HYL HWt HDv
       go_wp2_with fail
       refine (HLs.out _ HY6.out).mono ?_
       rintro e w7 ⟨rfl, hy7⟩
       have HY7 : Hid (CY w0 cb q ⟨nd, []⟩ w7) := hy7
       clear hy7 HY6
       go_wp2_with fail
       refine (HF1.out _ HY7.out).mono ?_
       rintro e w8 ⟨rfl, hy8⟩
       have HY8 : Hid (CY w0 cb q ⟨nd, [(1, ⟨2, 4, 0, 0, emp⟩)]⟩ w8) := hy8
       clear hy8 HY7
       go_wp2_with fail
       refine (HF2.out _ HY8.out).mono ?_
       rintro e w9 ⟨rfl, hy9⟩
       have HY9 : Hid (CY w0 cb q ⟨nd, [(1, ⟨2, 4, 0, 0, emp⟩)]⟩ w9) := hy9
       clear hy9 HY8
       go_wp2_with fail
       refine (HW2.out _ HY9.out).mono ?_
       rintro e w10 ⟨rfl, hx10⟩
       have HE9 : Hid (Ext w w10) := by rw [hx10]; exact HE0.out.trans HY9.out.old
       clear hx10 HY9
       go_wp2
       go_ret
       exact ⟨rfl, HE9.out⟩
set_option maxHeartbeats 2000000 in
theorem councilNone_any (d : Dd) (w : World) : Calls Try.prog 6 #[dv d] w fun e w' => e = .returned (.bool true) ∧ Ext w w' := by
 obtain ⟨X, hX⟩ : ∃ X, w.alloc (.cells #[.int .i64 d.kd, .int .i64 d.nd, .int .i64 d.at', .int .i64 d.wd.kd, .int .i64 d.wd.fr, .int .i64 d.wd.rd, .int .i64 d.wd.va, .string d.wd.vl] 34) = X := ⟨_, rfl⟩
 have HE : Hid (Ext w X) := by rw [← hX]; exact (Ext.refl w).alloc _
 obtain ⟨bx, hbx⟩ : ∃ bx, w.heap.size = bx := ⟨_, rfl⟩
 have hB := blk_dd w d
 rw [hX, hbx] at hB
 have HB : Hid (Blk X bx 8 (fun j => (#[.int .i64 d.kd, .int .i64 d.nd, .int .i64 d.at', .int .i64 d.wd.kd, .int .i64 d.wd.fr, .int .i64 d.wd.rd, .int .i64 d.wd.va, .string d.wd.vl] : Array Value).getD j undef)) := hB
 have b1 : X.cell? ⟨bx, 1, none⟩ = some (.int .i64 d.nd) := (hB.2 1 (by decide)).1
 have bl := hB.1
 have HD : Hid (Calls Try.prog 11 #[.pointer none, .int .i64 d.nd] X fun e w' => e = .returned (.tuple #[.string emp, .bool false]) ∧ Ext X w') := decided_nil _ X
 have HO : Hid (∀ wx, Calls Try.prog 10 #[.pointer none, dv d] wx fun e w' => e = .returned (.bool false) ∧ Ext wx w') := fun wx => do_nil d wx
 clear hB
 go_enter Try.func6, Try.ntmps6
 go_wp2_with fail
 refine HD.out.mono ?_
 rintro e w1 ⟨rfl, hx1⟩
 have HX1 : Hid (Ext w w1) := HE.out.trans hx1
 have hB2 := HB.out.ext hx1
 have c0 : w1.cell? ⟨bx, 0, none⟩ = some (.int .i64 d.kd) := (hB2.2 0 (by decide)).1
 have c1 : w1.cell? ⟨bx, 1, none⟩ = some (.int .i64 d.nd) := (hB2.2 1 (by decide)).1
 have c2 : w1.cell? ⟨bx, 2, none⟩ = some (.int .i64 d.at') := (hB2.2 2 (by decide)).1
 have c3 : w1.cell? ⟨bx, 3, none⟩ = some (.int .i64 d.wd.kd) := (hB2.2 3 (by decide)).1
 have c4 : w1.cell? ⟨bx, 4, none⟩ = some (.int .i64 d.wd.fr) := (hB2.2 4 (by decide)).1
 have c5 : w1.cell? ⟨bx, 5, none⟩ = some (.int .i64 d.wd.rd) := (hB2.2 5 (by decide)).1
 have c6 : w1.cell? ⟨bx, 6, none⟩ = some (.int .i64 d.wd.va) := (hB2.2 6 (by decide)).1
 have c7 : w1.cell? ⟨bx, 7, none⟩ = some (.string d.wd.vl) := (hB2.2 7 (by decide)).1
 have cl := hB2.1
 clear hx1 hB2 hX hbx b1 bl HD HE HB
 go_wp2_with fail
 refine (HO.out _).mono ?_
 rintro e w2 ⟨rfl, hx2⟩
 have HX2 : Hid (Ext w w2) := HX1.out.trans hx2
 clear hx2 c0 c1 c2 c3 c4 c5 c6 c7 cl
 go_wp2_with fail
 refine (waiting_nil _).mono ?_
 rintro e w3 ⟨rfl, rfl⟩
 go_wp2_with fail
 refine (awake_any _).mono ?_
 rintro e w4 ⟨rfl, hx4⟩
 have HX4 : Hid (Ext w w4) := HX2.out.trans hx4
 clear hx4 HX2
 go_wp2
 go_ret
 exact ⟨rfl, HX4.out⟩
end Go.Proofs.Ytkfpmjepeikpjaa

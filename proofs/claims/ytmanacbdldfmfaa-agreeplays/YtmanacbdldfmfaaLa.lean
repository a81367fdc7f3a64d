/-
 A part that a law made, beside a row of words; awake, Few, AgreeNone, AgreeLeaders.
-/
import Derived.Test.YtmanacbdldfmfaaAl
namespace Go.Proofs.Ytmanacbdldfmfaa
open Go.RowKit
set_option maxRecDepth 10000
/-- What holds of a part that was started. -/
def FA (p : Pm) (s : Ag) (n : Nat) : Prop := okP p ∧ InvA p s ∧ 0 ≤ s.rd ∧ Quiet p s ∧ s.ps.length + s.vs.length ≤ n
theorem FA.take {p : Pm} {s : Ag} {n : Nat} (h : FA p s n) (m : Vt) : FA p (takeA p s m).1 (n + 1) := by
 obtain ⟨h1, h2, h3, h4, h5⟩ := h
 obtain ⟨q1, q2, q3⟩ := inv_take h2 m
 obtain ⟨q4, q5⟩ := q3 h3 h4
 exact ⟨h1, q1, q4, q5, by omega⟩
theorem FA.start {p : Pm} (h : okP p) : FA p (startA p newA).1 0 := by
 obtain ⟨q1, q2, q3⟩ := start_quiet p
 exact ⟨h, q1, by rw [q2]; exact Int.le_refl 0, .inr q3, by rw [start_eq]; exact Nat.le_refl _⟩
/-- A part, beside a row of words. -/
def LW (w : World) (b : Nat) (p : Pm) (s : Ag) (L : List Vt) (u : Value) (W : World) : Prop := ∃ vp G, AB W b p s vp .nilFunc G ∧ From G w.heap.size ∧ Ext w W ∧ W.ownsRow w.heap.size 39 5 u L.length (wcs L) ∧ ∀ k, u.ownBlock = some k → ¬ G k
/-- .. and what it said. -/
def LX (w : World) (b : Nat) (p : Pm) (s : Ag) (L : List Vt) (u : Value) (o : List Vt) (v : Value) (W : World) : Prop := LW w b p s L u W ∧ W.ownsRow w.heap.size 39 5 v o.length (wcs o)
section
variable {w W W' : World} {b : Nat} {p : Pm} {s s' : Ag} {L o : List Vt} {u v : Value}
theorem LW.ext (h : LW w b p s L u W) (hx : Ext W W') : LW w b p s L u W' := by
 obtain ⟨vp, G, h1, h2, h3, h4, h5⟩ := h
 exact ⟨vp, G, h1.ext hx, h2, h3.trans hx, own_ext h4 hx, h5⟩
theorem LX.ext (h : LX w b p s L u o v W) (hx : Ext W W') : LX w b p s L u o v W' := ⟨h.1.ext hx, own_ext h.2 hx⟩
theorem LW.old (h : LW w b p s L u W) : Ext w W := by
 obtain ⟨_, _, _, _, h3, _⟩ := h
 exact h3
theorem LW.own (h : LW w b p s L u W) : W.ownsRow w.heap.size 39 5 u L.length (wcs L) := by
 obtain ⟨_, _, _, _, _, h4, _⟩ := h
 exact h4
theorem LW.tk {G : Nat → Prop} {vp : Value} {e : Ending} (_h1 : AB W b p s vp .nilFunc G) (h2 : From G w.heap.size) (h3 : Ext w W) (h4 : W.ownsRow w.heap.size 39 5 u L.length (wcs L)) (h5 : ∀ k, u.ownBlock = some k → ¬ G k) (h : TkP b p s' o G W e W') : ∃ a n c, e = .returned (.slice a n c) ∧ LX w b p s' L u o (.slice a n c) W' := by
 obtain ⟨v, vp', G', rfl, q1, q2, q3, q4, q5⟩ := h
 obtain ⟨a, c, rfl⟩ := own_len q4
 refine ⟨a, _, c, rfl, ⟨vp', G', q1, q2.from h2 h3.size, Chg.ext h3 h2 q3, own_keep h4 (fun k q => q3.block k (h4.lt k q).2 (h5 k q)), fun k q z => ?_⟩, own_base q4 h3.size⟩
 rcases q2 k z with e | e
 ·exact h5 k q e
 ·have := (h4.lt k q).2; omega
/-- A word is taken. -/
theorem ltake_any {n : Nat} (m : Vt) (hf : FA p s n) (hn : n ≤ 900) (hrw : (Lit.int .i64 m.rd).wf = true) (h : LW w b p s L u W) : Calls Try.prog 14 #[.pointer (some ⟨b, 0, none⟩), wv m] W fun e w' => ∃ a n c, e = .returned (.slice a n c) ∧ LX w b p (takeA p s m).1 L u (takeA p s m).2 (.slice a n c) w' := by
 obtain ⟨vp, G, h1, h2, h3, h4, h5⟩ := h
 obtain ⟨f1, f2, f3, f4, f5⟩ := hf
 exact (take_any m f1 f2 (fun _ => f4) (by omega) hrw h1).mono fun e w' q => LW.tk h1 h2 h3 h4 h5 q
/-- It is started. -/
theorem lstart_any (hp : okP p) (hi : InvA p s) (h : LW w b p s L u W) : Calls Try.prog 17 #[.pointer (some ⟨b, 0, none⟩)] W fun e w' => ∃ a n c, e = .returned (.slice a n c) ∧ LX w b p (startA p s).1 L u (startA p s).2 (.slice a n c) w' := by
 obtain ⟨vp, G, h1, h2, h3, h4, h5⟩ := h
 exact (start_any hp hi h1).mono fun e w' q => LW.tk h1 h2 h3 h4 h5 q
/-- What it said becomes the row. -/
theorem LX.row (h : LX w b p s [] (.slice none 0 0) o v W) (hv : ∃ vp G, AB W b p s vp .nilFunc G ∧ From G w.heap.size ∧ ∀ k, v.ownBlock = some k → ¬ G k) : LW w b p s o v W := by
 obtain ⟨vp, G, h1, h2, h5⟩ := hv
 exact ⟨vp, G, h1, h2, h.1.old, h.2, h5⟩
theorem lnew_good (hp : okP p) (hx : Ext w W) : Calls Try.prog 12 #[.int .i64 (p.n : Int), .int .i64 (p.t : Int), .int .i64 p.me, .int .i64 p.ht, .string p.own] W fun e w' => ∃ b, e = .returned (.pointer (some ⟨b, 0, none⟩)) ∧ LW w b p newA [] (.slice none 0 0) w' :=
 (anew_good p hp W).mono fun e w' q => by
  obtain ⟨b, vp, G, rfl, q1, q2, q3⟩ := q
  exact ⟨b, rfl, vp, G, q1, fun k z => Nat.le_trans hx.size (q2 k z), hx.trans q3, World.ownsRow_nil _ _ _ _, fun k z => by cases z⟩
/-- The first words, in a row of their own. -/
theorem lstart_row (hp : okP p) (hi : InvA p s) (h : LW w b p s [] (.slice none 0 0) W) : Calls Try.prog 17 #[.pointer (some ⟨b, 0, none⟩)] W fun e w' => ∃ a n c, e = .returned (.slice a n c) ∧ LW w b p (startA p s).1 (startA p s).2 (.slice a n c) w' := by
 obtain ⟨vp, G, h1, h2, h3, h4, h5⟩ := h
 exact (start_any hp hi h1).mono fun e w' q => by
  obtain ⟨v, vp', G', rfl, q1, q2, q3, q4, q5⟩ := q
  obtain ⟨a, c, rfl⟩ := own_len q4
  exact ⟨a, _, c, rfl, vp', G', q1, q2.from h2 h3.size, Chg.ext h3 h2 q3, own_base q4 h3.size, q5⟩
theorem llocked (hf : InvA p s) (h : LW w b p s L u W) : Calls Try.prog 20 #[.pointer (some ⟨b, 0, none⟩)] W fun e w' => e = .returned (.tuple #[.string s.lk, .int .i64 s.lr]) ∧ Ext W w' := by
 obtain ⟨vp, G, h1, _⟩ := h
 exact alocked_any h1 hf
theorem lat (h : LW w b p s L u W) : Calls Try.prog 19 #[.pointer (some ⟨b, 0, none⟩)] W fun e w' => e = .returned (.tuple #[.int .i64 s.rd, .int .i64 s.st]) ∧ Ext W w' := by
 obtain ⟨vp, G, h1, _⟩ := h
 exact aat_any h1
theorem ldecided (hf : InvA p s) (h : LW w b p s L u W) : Calls Try.prog 21 #[.pointer (some ⟨b, 0, none⟩)] W fun e w' => e = .returned (.tuple #[.string s.dc, .bool s.dn]) ∧ Ext W w' := by
 obtain ⟨vp, G, h1, _⟩ := h
 exact adecided_any h1 hf
end
/-- What was said is put behind the row. -/
theorem lapp {w W : World} {b : Nat} {p : Pm} {s : Ag} {L o : List Vt} {u v : Value} (h : LX w b p s L u o v W) (hn : L.length + o.length ≤ 100000) {op : Oper} {a : Act} {K : Act → World → Prop} {Q : Exit → Act → World → Prop} (x y : Operand) (ho : op.op = .call { callee := .builtin .append, args := #[x, y], argTypes := #[27, 27] }) (hx : a.eval x = u) (hy : a.eval y = v)
  (hK : ∀ a' n' c' W', LW w b p s (L ++ o) (.slice a' n' c') W' → K (a.put op.dst (.slice a' n' c')) W') : op.wp Try.prog a W K Q := by
 obtain ⟨⟨vp, G, h1, h2, h3, h4, h5⟩, h6⟩ := h
 refine app22 W x y ho w.heap.size u L.length (wcs L) hx h4 v o.length (wcs o) hy (own_slv h6) (wcs_len o) (wcs_one o) hn h3.size ?_
 intro v' W' q1 q2 q3
 obtain ⟨a', c', rfl⟩ := own_len q1
 refine hK _ _ _ W' ⟨vp, G, h1.keep q2.size (fun k hk => q2.block k (h1.lt k hk) (fun z => h5 k z.symm hk)), h2, ?_, by rw [wcs_app, List.length_append]; exact q1, fun k q z => ?_⟩
 ·have c0 : Chg (fun k => u.ownBlock = some k) W W' := (Chg.refl _ W).grown q2 (fun k q => .inl q)
  exact Chg.ext h3 (fun k q => (h4.lt k q).1) c0
 ·rcases q3 with e | e
  ·exact h5 k (e ▸ q) z
  ·rw [e] at q
   injection q with q
   have := h1.lt k z
   omega
theorem own_n {w : World} {base sz k n c : Nat} {e : TypeId} {a : Option Addr} {xs : List Value} (h : w.ownsRow base e sz (.slice a n c) k xs) : n = k := by
 obtain ⟨a', c', q⟩ := own_len h
 injection q with _ q2 _
def vS : ByteArray := ⟨#[118]⟩
def p0 : Pm := ⟨1, 0, 1, 0, vS⟩
theorem p0_ok : okP p0 := ⟨⟨by decide, by decide, by decide, by decide⟩, by decide, by decide, by decide, by decide, by decide, by decide⟩
theorem p0_no : ¬ okPm 3 1 1 0 vS := fun q => by have := q.1.2.2.1; omega
def awS : Nat → Ag × List Vt
 | 0 => startA p0 newA
 | i + 1 => match (awS i).2[i]? with
  | some m => ((takeA p0 (awS i).1 m).1, (awS i).2 ++ (takeA p0 (awS i).1 m).2)
  | none => awS i
theorem awS_fa : ∀ i, FA p0 (awS i).1 i
 | 0 => FA.start p0_ok
 | i + 1 => by
  have h := awS_fa i
  unfold awS
  cases (awS i).2[i]? with
  | some m => exact h.take m
  | none => obtain ⟨h1, h2, h3, h4, h5⟩ := h; exact ⟨h1, h2, h3, h4, by dsimp only; omega⟩
theorem awS_step {i : Nat} {m : Vt} (h : (awS i).2[i]? = some m) : awS (i + 1) = ((takeA p0 (awS i).1 m).1, (awS i).2 ++ (takeA p0 (awS i).1 m).2) := by
 show (match (awS i).2[i]? with | some m => ((takeA p0 (awS i).1 m).1, (awS i).2 ++ (takeA p0 (awS i).1 m).2) | none => awS i) = _
 rw [h]
theorem awS_at : ∀ i, i < 3 → (((awS i).2[i]?).map (·.rd) = some 0 ∧ (awS i).2.length = i + 1)
 | 0, _ => ⟨by kernel_rfl, by kernel_rfl⟩
 | 1, _ => ⟨by kernel_rfl, by kernel_rfl⟩
 | 2, _ => ⟨by kernel_rfl, by kernel_rfl⟩
theorem awS_end : (awS 3).2.length = 3 ∧ (awS 3).1.dn = true ∧ (awS 3).1.dc = vS ∧ (awS 3).1.rd = 0 ∧ (awS 3).1.st = 3 ∧ (awS 3).1.lk = vS ∧ (awS 3).1.lr = 0 := ⟨by kernel_rfl, by kernel_rfl, by kernel_rfl, by kernel_rfl, by kernel_rfl, by kernel_rfl, by kernel_rfl⟩
set_option maxHeartbeats 4000000 in
theorem awake_any (w : World) : Calls Try.prog 10 #[] w fun e w' => e = .returned (.bool true) ∧ Ext w w' := by
 have HE0 : Hid (Ext w w) := Ext.refl w
 have HN : Hid (Calls Try.prog 12 #[.int .i64 1, .int .i64 0, .int .i64 1, .int .i64 0, .string ⟨#[118]⟩] w fun e w' => ∃ b, e = .returned (.pointer (some ⟨b, 0, none⟩)) ∧ LW w b p0 newA [] (.slice none 0 0) w') := lnew_good p0_ok HE0.out
 have HB : Hid (∀ wx, Calls Try.prog 12 #[.int .i64 3, .int .i64 1, .int .i64 1, .int .i64 0, .string ⟨#[118]⟩] wx fun e w' => e = .returned (.pointer none) ∧ Ext wx w') := fun wx => anew_bad 3 1 1 0 vS p0_no wx
 have HL1 : Hid (∀ wx, Calls Try.prog 8 #[.int .i64 4, .int .i64 2, .int .i64 3] wx fun e w' => e = .returned (.int .i64 2) ∧ w' = wx) := fun wx => lead_any 4 2 3 wx
 have HL2 : Hid (∀ wx, Calls Try.prog 8 #[.int .i64 0, .int .i64 0, .int .i64 0] wx fun e w' => e = .returned (.int .i64 0) ∧ w' = wx) := fun wx => lead_any 0 0 0 wx
 go_enter Try.func10, Try.ntmps10
 go_wp2_with fail
 refine HN.out.mono ?_
 rintro e w1 ⟨b, rfl, hW⟩
 have HW : Hid (LW w b p0 newA [] (.slice none 0 0) w1) := hW
 clear hW HN
 go_wp2_with fail
 refine (HB.out _).mono ?_
 rintro e w2 ⟨rfl, HX⟩
 have HW2 : Hid (LW w b p0 newA [] (.slice none 0 0) w2) := HW.out.ext HX
 clear HX HW HB
 go_wp2_with fail
 refine (HL1.out _).mono ?_
 rintro e w3 ⟨rfl, ew⟩
 subst ew
 go_wp2_with fail
 refine (HL2.out _).mono ?_
 rintro e w4 ⟨rfl, ew⟩
 subst ew
 clear HL1 HL2
 go_wp2_with fail
 refine (lstart_row p0_ok (inv_new p0) HW2.out).mono ?_
 rintro e w5 ⟨a, n, c, rfl, hW⟩
 have HW3 : Hid (LW w b p0 (awS 0).1 (awS 0).2 (.slice a n c) w5) := hW
 clear hW HW2
 go_wp2_with fail
 go_loopw [2, 3] (fun u2 u3 wr => ∃ i : Nat, ∃ a n c, i ≤ 3 ∧ u3 = .int .i64 i ∧ u2 = .slice a n c ∧ Hid (LW w b p0 (awS i).1 (awS i).2 (.slice a n c) wr)) (fun _ u3 _ => 9 - (intOf u3).toNat)
 case atStart => exact ⟨0, a, n, c, by decide, rfl, rfl, HW3⟩
 case round =>
  clear HW3
  obtain ⟨i, a, n, c, hi, rfl, rfl, HW⟩ := hrel
  have en := own_n HW.out.own
  by_cases hlt : i < 3
  ·obtain ⟨q1, q2⟩ := awS_at i hlt
   obtain ⟨m, hm⟩ : ∃ m, (awS i).2[i]? = some m := by
    cases q : (awS i).2[i]? with
    | none => rw [q] at q1; cases q1
    | some m => exact ⟨m, rfl⟩
   rw [hm] at q1
   have hr0 : m.rd = 0 := by simpa using q1
   rw [q2] at en
   have HT : Hid (Calls Try.prog 14 #[.pointer (some ⟨b, 0, none⟩), .agg #[.int .i64 m.kd, .int .i64 m.fr, .int .i64 m.rd, .int .i64 m.va, .string m.vl]] wr fun e w' => ∃ a' n' c', e = .returned (.slice a' n' c') ∧ LX w b p0 (takeA p0 (awS i).1 m).1 (awS i).2 (.slice a n c) (takeA p0 (awS i).1 m).2 (.slice a' n' c') w') := ltake_any m (awS_fa i) (by omega) (by rw [hr0]; decide) HW.out
   have HS : Hid (awS (i + 1) = ((takeA p0 (awS i).1 m).1, (awS i).2 ++ (takeA p0 (awS i).1 m).2)) := awS_step hm
   have HLn : Hid ((awS i).2.length + (takeA p0 (awS i).1 m).2.length ≤ 100000) := by
    have h1 : (awS (i + 1)).2.length ≤ 4 := by
     by_cases z : i + 1 < 3
     ·rw [(awS_at _ z).2]; omega
     ·obtain rfl : i = 2 := by omega
      rw [awS_end.1]; omega
    rw [HS.out, List.length_append] at h1
    exact Nat.le_trans h1 (by decide)
   obtain ⟨g, og, ea, hbl, hd0, hd1, hd2, hd3, hd4⟩ := (show WsIs wr (.slice a (awS i).2.length c) (awS i).2 by rw [q2, ← en]; exact own_ws HW.out.own).get hm
   subst ea
   have Hen : Hid (n = i + 1) := en
   have hin : i < n := by omega
   obtain ⟨k1, k0, qw⟩ := lp_nums i n hin (by omega)
   have d2 : decide ((i : Int) < 9) = true := decide_eq_true (by omega)
   have Hm : Hid (9 - (intOf (.int .i64 ((i : Int) + 1))).toNat < 9 - (intOf (.int .i64 (i : Int))).toNat) := by show _ < _; simp [intOf]; omega
   clear en
   clear q1 q2 hm hr0 HW
   go_wp2_with fail
   refine HT.out.mono ?_
   rintro e w6 ⟨a', n', c', rfl, hX⟩
   have HX : Hid _ := hX
   clear hX HT
   dsimp only
   refine (‹Shut (∀ a w, wpList _ _ _ _ a w → _)›).out _ _ ?_
   refine wpList_plain rfl fun K hK => ?_
   refine lapp HX.out HLn.out (.tmp 37) (.tmp 43) rfl rfl rfl ?_
   intro a2 n2 c2 w7 hW7
   have HW7 : Hid (LW w b p0 (awS (i + 1)).1 (awS (i + 1)).2 (.slice a2 n2 c2) w7) := by show LW _ _ _ _ _ _ _; rw [HS.out]; exact hW7
   refine hK _ _ ?_
   clear hK K hW7 HX
   try simp only [sx]
   go_wp2_with fail
   go_roundw
   case rel => exact ⟨i + 1, a2, n2, c2, by omega, by push_cast; rfl, rfl, HW7⟩
   case measure => exact Hm.out
  ·obtain rfl : i = 3 := by omega
   rw [awS_end.1] at en
   subst en
   have HF : Hid (InvA p0 (awS 3).1) := (awS_fa 3).2.1
   have HD : Hid (∀ wx, LW w b p0 (awS 3).1 (awS 3).2 (.slice a 3 c) wx → Calls Try.prog 21 #[.pointer (some ⟨b, 0, none⟩)] wx fun e w' => e = .returned (.tuple #[.string vS, .bool true]) ∧ Ext wx w') := fun wx hw => by
    have := ldecided HF.out hw
    rw [awS_end.2.1, awS_end.2.2.1] at this
    exact this
   have HA : Hid (∀ wx, LW w b p0 (awS 3).1 (awS 3).2 (.slice a 3 c) wx → Calls Try.prog 19 #[.pointer (some ⟨b, 0, none⟩)] wx fun e w' => e = .returned (.tuple #[.int .i64 0, .int .i64 3]) ∧ Ext wx w') := fun wx hw => by
    have := lat hw
    rw [awS_end.2.2.2.1, awS_end.2.2.2.2.1] at this
    exact this
   have HK : Hid (∀ wx, LW w b p0 (awS 3).1 (awS 3).2 (.slice a 3 c) wx → Calls Try.prog 20 #[.pointer (some ⟨b, 0, none⟩)] wx fun e w' => e = .returned (.tuple #[.string vS, .int .i64 0]) ∧ Ext wx w') := fun wx hw => by
    have := llocked HF.out hw
    rw [awS_end.2.2.2.2.2.1, awS_end.2.2.2.2.2.2] at this
    exact this
   have ha : (vS.toList == [118]) = true := by rw [ByteArray.toList_eq]; rfl
   clear hlt hi
   go_wp2_with fail
   refine (HD.out _ HW.out).mono ?_
   rintro e w6 ⟨rfl, HX⟩
   have HW6 : Hid (LW w b p0 (awS 3).1 (awS 3).2 (.slice a 3 c) w6) := HW.out.ext HX
   clear HX HD HW
   go_wp2_with fail
   refine (HA.out _ HW6.out).mono ?_
   rintro e w7 ⟨rfl, HX⟩
   have HW7 : Hid (LW w b p0 (awS 3).1 (awS 3).2 (.slice a 3 c) w7) := HW6.out.ext HX
   clear HX HA HW6
   go_wp2_with fail
   refine (HK.out _ HW7.out).mono ?_
   rintro e w8 ⟨rfl, HX⟩
   have HW8 : Hid (Ext w w8) := HW7.out.old.trans HX
   clear HX HK HW7
   go_wp2_with fail
   go_ret
   exact ⟨rfl, HW8.out⟩
end Go.Proofs.Ytmanacbdldfmfaa

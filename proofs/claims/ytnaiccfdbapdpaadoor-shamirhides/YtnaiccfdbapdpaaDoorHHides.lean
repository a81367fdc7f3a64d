/-
  ShamirHides, walked: it answers true; nothing old is turned.
-/
import Derived.Test.YtnaiccfdbapdpaaDoorHThr
namespace Go.Proofs.YtnaiccfdbapdpaaDoor
open Go.RowKit
theorem keepH {W0 wx : World} {b o : Nat} {x z0 z1 z2 z3 : Int} (hb : Ext W0 wx) (k : W0.cell? ⟨b, o, none⟩ = some (.int .i64 x) ∧ W0.cell? ⟨b, o + 1, none⟩ = some (.int .u64 z0) ∧ W0.cell? ⟨b, o + 2, none⟩ = some (.int .u64 z1) ∧ W0.cell? ⟨b, o + 3, none⟩ = some (.int .u64 z2) ∧ W0.cell? ⟨b, o + 4, none⟩ = some (.int .u64 z3)) : Ext W0 wx ∧ wx.cell? ⟨b, o, none⟩ = some (.int .i64 x) ∧ wx.cell? ⟨b, o + 1, none⟩ = some (.int .u64 z0) ∧ wx.cell? ⟨b, o + 2, none⟩ = some (.int .u64 z1) ∧ wx.cell? ⟨b, o + 3, none⟩ = some (.int .u64 z2) ∧ wx.cell? ⟨b, o + 4, none⟩ = some (.int .u64 z3) :=
  ⟨hb, later hb k.1, later hb k.2.1, later hb k.2.2.1, later hb k.2.2.2.1, later hb k.2.2.2.2⟩
/-- Words of a number less than q. -/
theorem qw_self {x0 x1 x2 x3 : Int} (hx : Lim4 x0 x1 x2 x3) (h : val x0 x1 x2 x3 < FQ) : x0 = qw (val x0 x1 x2 x3) 0 ∧ x1 = qw (val x0 x1 x2 x3) 1 ∧ x2 = qw (val x0 x1 x2 x3) 2 ∧ x3 = qw (val x0 x1 x2 x3) 3 := qw_one (qmod_less hx h)
theorem sc_self {P : Nat → Int} {F : Nat → Nat → Int} {n : Nat} (hl : LimN F n) (hv : ∀ i, i < n → val (F i 0) (F i 1) (F i 2) (F i 3) < FQ) : ∀ k, k < n * 5 → sc P F k = sc P (fun i j => qw (val (F i 0) (F i 1) (F i 2) (F i 3)) j) k := by
  intro k hk
  unfold sc
  by_cases h : k % 5 = 0
  · rw [if_pos h, if_pos h]
  · rw [if_neg h, if_neg h]
    have hi : k / 5 < n := by omega
    obtain ⟨e0, e1, e2, e3⟩ := qw_self (hl _ hi) (hv _ hi)
    have : k % 5 - 1 = 0 ∨ k % 5 - 1 = 1 ∨ k % 5 - 1 = 2 ∨ k % 5 - 1 = 3 := by omega
    rcases this with e | e | e | e <;> rw [e]
    · exact congrArg _ e0
    · exact congrArg _ e1
    · exact congrArg _ e2
    · exact congrArg _ e3
attribute [local go_sem] run_eq4
set_option maxHeartbeats 16000000 in
set_option maxRecDepth 10000 in
theorem hides_any (v : Value) (n : Nat) (P : Nat → Int) (F : Nat → Nat → Int) (s0 s1 s2 s3 : Int) (hP : ∀ i, i < n → I64 (P i)) (hl : LimN F n) (hs : Lim4 s0 s1 s2 s3) (w : World) (hG : Gl w) (hL : Lies w v n 5 (sc P F)) :
    Calls Tryd.prog 7 #[v, .agg #[.int .u64 s0, .int .u64 s1, .int .u64 s2, .int .u64 s3]] w fun e w' => e = .returned (.bool true) ∧ Ext w w' := by
  obtain ⟨i0, hi0, hz0, hz1, hz2⟩ := info_parts info3
  obtain ⟨a, cap, rfl, hL'⟩ := hL
  have HL : Hid (Lies w (.slice a n cap) n 5 (sc P F)) := ⟨a, cap, rfl, hL'⟩
  have HG : Hid (Gl w) := hG
  have HLm : Hid (LimN F n) := hl
  have HP : Hid (∀ i, i < n → I64 (P i)) := hP
  have HSm : Hid (Lim4 s0 s1 s2 s3) := hs
  clear hL' hG hl hP hs
  have HEb : Hid (Ext w (w.alloc (.cells #[.int .u64 s0, .int .u64 s1, .int .u64 s2, .int .u64 s3] 26))) := (Ext.refl _).alloc _
  have Rb := Row.new w s0 s1 s2 s3
  have HVs : Hid (∀ W, Calls Tryd.prog 21 #[.agg #[.int .u64 s0, .int .u64 s1, .int .u64 s2, .int .u64 s3]] W fun e w' => e = .returned (.bool (decide (val s0 s1 s2 s3 < FQ))) ∧ Ext W w') := fun W => refSValid_any _ _ _ _ HSm.out W
  go_enter Tryd.func7, Tryd.ntmps7
  by_cases hn3 : 3 < n
  · have h3 : (3 : Int) < (n : Int) := by omega
    obtain ⟨lb, k0, k1, k2, k3⟩ := Rb
    go_wp2_with fail
    refine (awake_any _ (HG.out.ext HEb.out)).mono ?_
    rintro e wq ⟨rfl, HXq⟩
    have HEq : Hid (Ext w wq) := HEb.out.trans HXq
    clear HXq
    go_wp2
    go_ret
    exact ⟨rfl, HEq.out⟩
  have h3 : ¬ (3 : Int) < (n : Int) := by omega
  have Rb0 := Rb
  obtain ⟨lb, k0, k1, k2, k3⟩ := Rb0
  go_wp2_with fail
  refine (HVs.out _).mono ?_
  rintro e w1 ⟨rfl, HX1⟩
  have HE1 : Hid (Ext w w1) := HEb.out.trans HX1
  have Rb1 := Rb.ext HX1
  clear HX1 Rb k0 k1 k2 k3 lb HVs HEb
  by_cases hsv : val s0 s1 s2 s3 < FQ
  rotate_left
  · have hd : decide (val s0 s1 s2 s3 < FQ) = false := by simpa using hsv
    rw [hd]
    clear hd hsv
    go_wp2_with fail
    refine (awake_any _ (HG.out.ext HE1.out)).mono ?_
    rintro e wq ⟨rfl, HXq⟩
    have HEq : Hid (Ext w wq) := HE1.out.trans HXq
    clear HXq
    go_wp2
    go_ret
    exact ⟨rfl, HEq.out⟩
  have hd : decide (val s0 s1 s2 s3 < FQ) = true := by simpa using hsv
  rw [hd]
  clear hd
  have HSv : Hid (val s0 s1 s2 s3 < FQ) := hsv
  clear hsv
  have HO0 : Hid ((w1.alloc (.cells #[] 3)).ownsRow w1.heap.size 3 1 (.slice (some ⟨w1.heap.size, 0, none⟩) 0 0) 0 (itl P 0)) := World.ownsRow_made w1 #[] 0 (Nat.le_refl _) (by unfold maxLen; omega) rfl
  have HV0 : Hid (∀ k, k < 0 → val (F k 0) (F k 1) (F k 2) (F k 3) < FQ) := fun k h => absurd h (Nat.not_lt_zero k)
  have HEa : Hid (Ext w1 (w1.alloc (.cells #[] 3))) := (Ext.refl _).alloc _
  go_wp2
  generalize w1.alloc (.cells #[] 3) = W1 at *
  go_loopw [5, 6] (fun u5 u6 wr => ∃ (i : Nat) (a5 : Option Addr) (c5 : Nat), i ≤ n ∧ u5 = .slice a5 i c5 ∧ u6 = .int .i64 (i : Int) ∧ Hid (wr.ownsRow w1.heap.size 3 1 (.slice a5 i c5) i (itl P i)) ∧ Hid (∀ k, k < i → val (F k 0) (F k 1) (F k 2) (F k 3) < FQ) ∧ Hid (Ext w1 wr)) (fun _ u6 _ => n - (intOf u6).toNat)
  case atStart => exact ⟨0, _, 0, Nat.zero_le _, rfl, rfl, HO0, HV0, HEa⟩
  case round =>
    obtain ⟨i, a5, c5, hi, rfl, rfl, HOr, HV, HEr⟩ := hrel
    clear HO0 HV0 HEa
    by_cases hlt : i < n
    · have h1 : (i : Int) < (n : Int) := by omega
      have h0 : (0 : Int) ≤ (i : Int) := by omega
      have hw : IntKind.i64.wrap ((i : Int) + 1) = (i : Int) + 1 := by rw [IntKind.wrap_i64]; omega
      obtain ⟨b, o, rfl, hb, x0, x1, x2, x3, x4⟩ := (HL.out.ext (HE1.out.trans HEr.out)).share hlt
      go_wp2_with fail
      refine (refSValid_any _ _ _ _ (HLm.out i hlt) _).mono ?_
      rintro e w2 ⟨rfl, HX2⟩
      have HE2 : Hid (Ext w1 w2) := HEr.out.trans HX2
      have HO2 : Hid (w2.ownsRow w1.heap.size 3 1 (.slice a5 i c5) i (itl P i)) := own_ext HOr.out HX2
      have p0 := later HX2 x0
      have hsz2 : w1.heap.size ≤ w2.heap.size := HE2.out.size
      clear HX2 HOr HEr x0 x1 x2 x3 x4 hb
      by_cases hvi : val (F i 0) (F i 1) (F i 2) (F i 3) < FQ
      · have hd : decide (val (F i 0) (F i 1) (F i 2) (F i 3) < FQ) = true := by simpa using hvi
        rw [hd]
        have HV1 : Hid (∀ k, k < i + 1 → val (F k 0) (F k 1) (F k 2) (F k 3) < FQ) := fun k hk => by
          by_cases e : k = i
          · subst e; exact hvi
          · exact HV.out k (by omega)
        clear hd hvi
        go_wp2_with (first | (at_builtin; refine wpList_append_lies _ rfl _ _ 32 rfl w1.heap.size 3 i0 (.int .i64 0) 1 8 Tryd.underlying32 hi0 hz0 hz1 hz2 rfl (by decide) (.slice a5 i c5) i (itl P i) rfl (HO2.out.alloc _) ⟨w2.heap.size, 0, none⟩ 1 1 [.int .i64 (P i)] rfl rfl ?c1 (int_one _) (by decide) (by unfold maxLen; omega) (by omega) ?c2 _ rfl ?_))
        case c1 => exact news1 w2
        case c2 => (simp; omega)
        intro g cp w3 hown hgrow _ _
        have HO3 : Hid (w3.ownsRow w1.heap.size 3 1 (.slice (some ⟨g, 0, none⟩) (i + 1) cp) (i + 1) (itl P (i + 1))) := hown
        have HE3 : Hid (Ext w1 w3) := Ext.grown (HE2.out.alloc _) (HO2.out.alloc _) (Nat.le_refl _) hgrow
        clear hown hgrow HO2 HE2 p0
        go_wp2
        go_roundw
        case rel => exact ⟨i + 1, _, cp, hlt, rfl, by push_cast; rfl, HO3, HV1, HE3⟩
        case measure => simp [intOf]; omega
      · have hd : decide (val (F i 0) (F i 1) (F i 2) (F i 3) < FQ) = false := by simpa using hvi
        rw [hd]
        have HEw : Hid (Ext w w2) := HE1.out.trans HE2.out
        clear hd hvi p0
        go_wp2_with fail
        refine (awake_any _ (HG.out.ext HEw.out)).mono ?_
        rintro e wq ⟨rfl, HXq⟩
        have HEq : Hid (Ext w wq) := HEw.out.trans HXq
        clear HXq
        go_wp2
        go_ret
        exact ⟨rfl, HEq.out⟩
    · obtain rfl : i = n := by omega
      clear hi hlt
      have HEw : Hid (Ext w wr) := HE1.out.trans HEr.out
      have HLa : Hid (Lies wr (.slice a5 i c5) i 1 (fun k => .int .i64 (P k))) := Lies.own HOr.out (itl_at P i)
      have Rb2 := Rb1.ext HEr.out
      clear Rb1 HOr HEr HE1
      obtain ⟨S, hS⟩ : ∃ S, Hid (val s0 s1 s2 s3 = S) := ⟨_, rfl⟩
      have hs4 : Hid (s0 = qw S 0 ∧ s1 = qw S 1 ∧ s2 = qw S 2 ∧ s3 = qw S 3) := by rw [← hS.out]; exact qw_self HSm.out HSv.out
      have HS0 : Hid (0 ≤ S ∧ S < FQ) := by rw [← hS.out]; exact ⟨(val_bd HSm.out).1, HSv.out⟩
      obtain ⟨V, hV⟩ : ∃ V, Hid ((fun k => val (F k 0) (F k 1) (F k 2) (F k 3)) = V) := ⟨_, rfl⟩
      have HLq : Hid (Lies w (.slice a i cap) i 5 (sc P (fun k j => qw (V k) j))) := by rw [← hV.out]; exact HL.out.congr (sc_self HLm.out HV.out)
      have HVq : Hid (∀ k, k < i → QMod (V k) (F k 0) (F k 1) (F k 2) (F k 3)) := fun k hk => by rw [← hV.out]; exact qmod_less (HLm.out k hk) (HV.out k hk)
      obtain ⟨rfl, rfl, rfl, rfl⟩ := hs4.out
      clear hS hV hs4 HV HSm HSv
      by_cases hn0 : i = 0
      · have hq0 : ¬ (0 : Int) < (i : Int) := by omega
        have hq1 : ¬ 0 < i := by omega
        have HOk : Hid (OkP P i ∨ i = 0) := .inr hn0
        have HEx : Hid (Ext w wr) := HEw
        have HExr : Hid (Ext wr wr) := Ext.refl _
        have Rx := Rb2
        obtain ⟨lb, k0, k1, k2, k3⟩ := Rb2
        clear hn0 HEw
        go_wp2_with fail
        refine (thr_any _ i P V S (by omega) HOk.out _ (HLq.out.ext HEx.out)).mono ?_
        rintro e wc ⟨uc, rfl, hown, HXc⟩
        obtain ⟨ac, cc, rfl, hlc⟩ := Lies.own hown (nml_at (crd P i S V) (i + 1))
        have HLc : Hid (Lies wc (.slice ac (i + 1) cc) (i + 1) 4 (nc (fun k j => qw (crd P i S V k) j))) := ⟨ac, cc, rfl, hlc⟩
        have HEc : Hid (Ext w wc) := HEx.out.trans HXc
        have Rc := Rx.ext HXc
        clear hown hlc HXc HEx Rx k0 k1 k2 k3 lb
        have HEv : Hid (∀ k, k < i → ∀ W, Ext wc W → Calls Tryd.prog 9 #[.slice ac (i + 1) cc, .int .i64 (P k)] W fun e w' => e = .returned (.agg #[.int .u64 (F k 0), .int .u64 (F k 1), .int .u64 (F k 2), .int .u64 (F k 3)]) ∧ Ext W w') := by
          intro k hk W hW
          refine (seval_any _ (i + 1) _ (P k) (HP.out k hk) (by omega) (fun q _ => (qw_mod _).1) W (HG.out.ext (HEc.out.trans hW)) (HLc.out.ext hW)).mono ?_
          rintro e w' ⟨r0, r1, r2, r3, rfl, HQ, HX⟩
          have hok : OkP P i := HOk.out.resolve_right (by omega)
          rw [(okp_i64 hok.2 hk).2] at HQ
          obtain ⟨rfl, rfl, rfl, rfl⟩ := HQ.out.one (HVq.out k hk) ((hides HOk.out HS0.out).1 k hk)
          exact ⟨rfl, HX⟩
        have HEv0 : Hid (∀ W, Ext wc W → Calls Tryd.prog 9 #[.slice ac (i + 1) cc, .int .i64 0] W fun e w' => e = .returned (.agg #[.int .u64 (qw S 0), .int .u64 (qw S 1), .int .u64 (qw S 2), .int .u64 (qw S 3)]) ∧ Ext W w') := by
          intro W hW
          refine (seval_any _ (i + 1) _ 0 (i64_of _ rfl) (by omega) (fun q _ => (qw_mod _).1) W (HG.out.ext (HEc.out.trans hW)) (HLc.out.ext hW)).mono ?_
          rintro e w' ⟨r0, r1, r2, r3, rfl, HQ, HX⟩
          rw [show plc 0 = 0 from by decide] at HQ
          obtain ⟨rfl, rfl, rfl, rfl⟩ := HQ.out.one (qw_mod S) (hides HOk.out HS0.out).2
          exact ⟨rfl, HX⟩
        have HE9 : Hid (Ext wc wc) := Ext.refl _
        clear HLc HLq HVq HP HLm HS0 HOk
        obtain ⟨n, rfl⟩ : ∃ n, n = i := ⟨i, rfl⟩
        go_wp2
        go_loopw [8] (fun u8 wr => ∃ i : Nat, i ≤ n ∧ u8 = .int .i64 (i : Int) ∧ Hid (Ext wc wr)) (fun u8 _ => n - (intOf u8).toNat)
        case atStart => exact ⟨0, Nat.zero_le _, rfl, HE9⟩
        case round =>
          obtain ⟨i, hi, rfl, HEi⟩ := hrel
          clear HE9
          by_cases hlt : i < n
          · have h1 : (i : Int) < (n : Int) := by omega
            have h0 : (0 : Int) ≤ (i : Int) := by omega
            have hw : IntKind.i64.wrap ((i : Int) + 1) = (i : Int) + 1 := by rw [IntKind.wrap_i64]; omega
            obtain ⟨b, o, rfl, hb, x0, x1, x2, x3, x4⟩ := (HL.out.ext (HEc.out.trans HEi.out)).share hlt
            have Rs : wr.cell? ⟨b, o + i * 5, none⟩ = some (.int .i64 (P i)) ∧ wr.cell? ⟨b, o + i * 5 + 1, none⟩ = some (.int .u64 (F i 0)) ∧ wr.cell? ⟨b, o + i * 5 + 2, none⟩ = some (.int .u64 (F i 1)) ∧ wr.cell? ⟨b, o + i * 5 + 3, none⟩ = some (.int .u64 (F i 2)) ∧ wr.cell? ⟨b, o + i * 5 + 4, none⟩ = some (.int .u64 (F i 3)) := ⟨x0, x1, x2, x3, x4⟩
            have h4 : eq4 (F i 0) (F i 1) (F i 2) (F i 3) (F i 0) (F i 1) (F i 2) (F i 3) = true := by simp [eq4]
            clear x0 x1 x2 x3 x4 hb
            go_wp2_with fail
            go_region_held3 (fun wx : World => Ext wr wx ∧ wx.cell? ⟨b, o + i * 5, none⟩ = some (.int .i64 (P i)) ∧ wx.cell? ⟨b, o + i * 5 + 1, none⟩ = some (.int .u64 (F i 0)) ∧ wx.cell? ⟨b, o + i * 5 + 2, none⟩ = some (.int .u64 (F i 1)) ∧ wx.cell? ⟨b, o + i * 5 + 3, none⟩ = some (.int .u64 (F i 2)) ∧ wx.cell? ⟨b, o + i * 5 + 4, none⟩ = some (.int .u64 (F i 3))) (first | exact keepH (Ext.drew (Ext.refl _)) Rs | exact keepH (by assumption) Rs) (first | (go_at_call 9; (with_reducible refine (HEv.out i hlt _ (HEi.out.trans (by simp only [*]))).mono ?_); rintro e wy ⟨rfl, HX⟩; have hEy : Ext wr wy := (by refine Ext.trans ?_ HX; simp only [*])))
            all_goals
              have HE3 : Hid (Ext wc wy) := HEi.out.trans hEy
              clear hEy
              go_wp2
              go_roundw
              case rel => exact ⟨i + 1, hlt, by push_cast; rfl, HE3⟩
              case measure => simp [intOf]; omega
          · obtain rfl : i = n := by omega
            have Rk := Rc.ext HEi.out
            have G0 : Gl wr := HG.out.ext (HEc.out.trans HEi.out)
            have HEk : Hid (Ext w wr) := HEc.out.trans HEi.out
            have HEw0 : Hid (∀ W, Ext wr W → Calls Tryd.prog 9 #[.slice ac (i + 1) cc, .int .i64 0] W fun e w' => e = .returned (.agg #[.int .u64 (qw S 0), .int .u64 (qw S 1), .int .u64 (qw S 2), .int .u64 (qw S 3)]) ∧ Ext W w') := fun W hW => HEv0.out W (HEi.out.trans hW)
            have hw1 : IntKind.i64.wrap ((i : Int) + 1) = (i : Int) + 1 := by rw [IntKind.wrap_i64]; omega
            have h4 : eq4 (qw S 0) (qw S 1) (qw S 2) (qw S 3) (qw S 0) (qw S 1) (qw S 2) (qw S 3) = true := by simp [eq4]
            obtain ⟨W0, hW0⟩ : ∃ W0 : World, W0 = wr := ⟨_, rfl⟩
            subst hW0
            clear HEv HEv0 HEi Rc HEc hi hlt
            go_wp2_with fail
            go_region_held3 (fun wx : World => Ext W0 wx ∧ wx.cell? ⟨w.heap.size, 0, none⟩ = some (.int .u64 (qw S 0)) ∧ wx.cell? ⟨w.heap.size, 1, none⟩ = some (.int .u64 (qw S 1)) ∧ wx.cell? ⟨w.heap.size, 2, none⟩ = some (.int .u64 (qw S 2)) ∧ wx.cell? ⟨w.heap.size, 3, none⟩ = some (.int .u64 (qw S 3))) (first | exact keep1 (Ext.drew (Ext.refl _)) Rk | exact keep1 (by assumption) Rk) (first | (go_at_call 9; (with_reducible refine (HEw0.out _ (by simp only [*])).mono ?_); rintro e wy ⟨rfl, HX⟩; have hEy : Ext W0 wy := (by refine Ext.trans ?_ HX; simp only [*])) | (go_at_call 8; (with_reducible refine (awake_any _ (G0.ext (by simp only [*]))).mono ?_); rintro e wy ⟨rfl, HX⟩; have hEy : Ext W0 wy := (by refine Ext.trans ?_ HX; simp only [*])))
            all_goals
              have hE : Ext w wy := HEk.out.trans hEy
              clear hEy
              go_wp2
              go_ret
              exact ⟨rfl, hE⟩
      · have hq0 : (0 : Int) < (i : Int) := by omega
        have hq1 : 0 < i := by omega
        clear hn0
        go_wp2_with fail
        refine (rplaces_any _ i P 0 _ HLa.out).mono ?_
        rintro e w4 ⟨hpl, HX4⟩
        have HEx : Hid (Ext w w4) := HEw.out.trans HX4
        have Rx := Rb2.ext HX4
        clear HX4 HEw Rb2 HLa
        rcases hpl with ⟨hpl, rfl⟩ | ⟨hpl, rfl⟩
        rotate_left
        · clear hpl
          go_wp2_with fail
          refine (awake_any _ (HG.out.ext HEx.out)).mono ?_
          rintro e wq ⟨rfl, HXq⟩
          have HEq : Hid (Ext w wq) := HEx.out.trans HXq
          clear HXq
          go_wp2
          go_ret
          exact ⟨rfl, HEq.out⟩
        have HOk : Hid (OkP P i ∨ i = 0) := .inl hpl.2.2
        clear hpl
        have Rx0 := Rx
        obtain ⟨lb, k0, k1, k2, k3⟩ := Rx0
        go_wp2_with fail
        refine (thr_any _ i P V S (by omega) HOk.out _ (HLq.out.ext HEx.out)).mono ?_
        rintro e wc ⟨uc, rfl, hown, HXc⟩
        obtain ⟨ac, cc, rfl, hlc⟩ := Lies.own hown (nml_at (crd P i S V) (i + 1))
        have HLc : Hid (Lies wc (.slice ac (i + 1) cc) (i + 1) 4 (nc (fun k j => qw (crd P i S V k) j))) := ⟨ac, cc, rfl, hlc⟩
        have HEc : Hid (Ext w wc) := HEx.out.trans HXc
        have Rc := Rx.ext HXc
        clear hown hlc HXc HEx Rx k0 k1 k2 k3 lb
        have HEv : Hid (∀ k, k < i → ∀ W, Ext wc W → Calls Tryd.prog 9 #[.slice ac (i + 1) cc, .int .i64 (P k)] W fun e w' => e = .returned (.agg #[.int .u64 (F k 0), .int .u64 (F k 1), .int .u64 (F k 2), .int .u64 (F k 3)]) ∧ Ext W w') := by
          intro k hk W hW
          refine (seval_any _ (i + 1) _ (P k) (HP.out k hk) (by omega) (fun q _ => (qw_mod _).1) W (HG.out.ext (HEc.out.trans hW)) (HLc.out.ext hW)).mono ?_
          rintro e w' ⟨r0, r1, r2, r3, rfl, HQ, HX⟩
          have hok : OkP P i := HOk.out.resolve_right (by omega)
          rw [(okp_i64 hok.2 hk).2] at HQ
          obtain ⟨rfl, rfl, rfl, rfl⟩ := HQ.out.one (HVq.out k hk) ((hides HOk.out HS0.out).1 k hk)
          exact ⟨rfl, HX⟩
        have HEv0 : Hid (∀ W, Ext wc W → Calls Tryd.prog 9 #[.slice ac (i + 1) cc, .int .i64 0] W fun e w' => e = .returned (.agg #[.int .u64 (qw S 0), .int .u64 (qw S 1), .int .u64 (qw S 2), .int .u64 (qw S 3)]) ∧ Ext W w') := by
          intro W hW
          refine (seval_any _ (i + 1) _ 0 (i64_of _ rfl) (by omega) (fun q _ => (qw_mod _).1) W (HG.out.ext (HEc.out.trans hW)) (HLc.out.ext hW)).mono ?_
          rintro e w' ⟨r0, r1, r2, r3, rfl, HQ, HX⟩
          rw [show plc 0 = 0 from by decide] at HQ
          obtain ⟨rfl, rfl, rfl, rfl⟩ := HQ.out.one (qw_mod S) (hides HOk.out HS0.out).2
          exact ⟨rfl, HX⟩
        have HE9 : Hid (Ext wc wc) := Ext.refl _
        clear HLc HLq HVq HP HLm HS0 HOk
        obtain ⟨n, rfl⟩ : ∃ n, n = i := ⟨i, rfl⟩
        go_wp2
        go_loopw [8] (fun u8 wr => ∃ i : Nat, i ≤ n ∧ u8 = .int .i64 (i : Int) ∧ Hid (Ext wc wr)) (fun u8 _ => n - (intOf u8).toNat)
        case atStart => exact ⟨0, Nat.zero_le _, rfl, HE9⟩
        case round =>
          obtain ⟨i, hi, rfl, HEi⟩ := hrel
          clear HE9
          by_cases hlt : i < n
          · have h1 : (i : Int) < (n : Int) := by omega
            have h0 : (0 : Int) ≤ (i : Int) := by omega
            have hw : IntKind.i64.wrap ((i : Int) + 1) = (i : Int) + 1 := by rw [IntKind.wrap_i64]; omega
            obtain ⟨b, o, rfl, hb, x0, x1, x2, x3, x4⟩ := (HL.out.ext (HEc.out.trans HEi.out)).share hlt
            have Rs : wr.cell? ⟨b, o + i * 5, none⟩ = some (.int .i64 (P i)) ∧ wr.cell? ⟨b, o + i * 5 + 1, none⟩ = some (.int .u64 (F i 0)) ∧ wr.cell? ⟨b, o + i * 5 + 2, none⟩ = some (.int .u64 (F i 1)) ∧ wr.cell? ⟨b, o + i * 5 + 3, none⟩ = some (.int .u64 (F i 2)) ∧ wr.cell? ⟨b, o + i * 5 + 4, none⟩ = some (.int .u64 (F i 3)) := ⟨x0, x1, x2, x3, x4⟩
            have h4 : eq4 (F i 0) (F i 1) (F i 2) (F i 3) (F i 0) (F i 1) (F i 2) (F i 3) = true := by simp [eq4]
            clear x0 x1 x2 x3 x4 hb
            go_wp2_with fail
            go_region_held3 (fun wx : World => Ext wr wx ∧ wx.cell? ⟨b, o + i * 5, none⟩ = some (.int .i64 (P i)) ∧ wx.cell? ⟨b, o + i * 5 + 1, none⟩ = some (.int .u64 (F i 0)) ∧ wx.cell? ⟨b, o + i * 5 + 2, none⟩ = some (.int .u64 (F i 1)) ∧ wx.cell? ⟨b, o + i * 5 + 3, none⟩ = some (.int .u64 (F i 2)) ∧ wx.cell? ⟨b, o + i * 5 + 4, none⟩ = some (.int .u64 (F i 3))) (first | exact keepH (Ext.drew (Ext.refl _)) Rs | exact keepH (by assumption) Rs) (first | (go_at_call 9; (with_reducible refine (HEv.out i hlt _ (HEi.out.trans (by simp only [*]))).mono ?_); rintro e wy ⟨rfl, HX⟩; have hEy : Ext wr wy := (by refine Ext.trans ?_ HX; simp only [*])))
            all_goals
              have HE3 : Hid (Ext wc wy) := HEi.out.trans hEy
              clear hEy
              go_wp2
              go_roundw
              case rel => exact ⟨i + 1, hlt, by push_cast; rfl, HE3⟩
              case measure => simp [intOf]; omega
          · obtain rfl : i = n := by omega
            have Rk := Rc.ext HEi.out
            have G0 : Gl wr := HG.out.ext (HEc.out.trans HEi.out)
            have HEk : Hid (Ext w wr) := HEc.out.trans HEi.out
            have HEw0 : Hid (∀ W, Ext wr W → Calls Tryd.prog 9 #[.slice ac (i + 1) cc, .int .i64 0] W fun e w' => e = .returned (.agg #[.int .u64 (qw S 0), .int .u64 (qw S 1), .int .u64 (qw S 2), .int .u64 (qw S 3)]) ∧ Ext W w') := fun W hW => HEv0.out W (HEi.out.trans hW)
            have hw1 : IntKind.i64.wrap ((i : Int) + 1) = (i : Int) + 1 := by rw [IntKind.wrap_i64]; omega
            have h4 : eq4 (qw S 0) (qw S 1) (qw S 2) (qw S 3) (qw S 0) (qw S 1) (qw S 2) (qw S 3) = true := by simp [eq4]
            obtain ⟨W0, hW0⟩ : ∃ W0 : World, W0 = wr := ⟨_, rfl⟩
            subst hW0
            clear HEv HEv0 HEi Rc HEc hi hlt
            go_wp2_with fail
            go_region_held3 (fun wx : World => Ext W0 wx ∧ wx.cell? ⟨w.heap.size, 0, none⟩ = some (.int .u64 (qw S 0)) ∧ wx.cell? ⟨w.heap.size, 1, none⟩ = some (.int .u64 (qw S 1)) ∧ wx.cell? ⟨w.heap.size, 2, none⟩ = some (.int .u64 (qw S 2)) ∧ wx.cell? ⟨w.heap.size, 3, none⟩ = some (.int .u64 (qw S 3))) (first | exact keep1 (Ext.drew (Ext.refl _)) Rk | exact keep1 (by assumption) Rk) (first | (go_at_call 9; (with_reducible refine (HEw0.out _ (by simp only [*])).mono ?_); rintro e wy ⟨rfl, HX⟩; have hEy : Ext W0 wy := (by refine Ext.trans ?_ HX; simp only [*])) | (go_at_call 8; (with_reducible refine (awake_any _ (G0.ext (by simp only [*]))).mono ?_); rintro e wy ⟨rfl, HX⟩; have hEy : Ext W0 wy := (by refine Ext.trans ?_ HX; simp only [*])))
            all_goals
              have hE : Ext w wy := HEk.out.trans hEy
              clear hEy
              go_wp2
              go_ret
              exact ⟨rfl, hE⟩
end Go.Proofs.YtnaiccfdbapdpaaDoor

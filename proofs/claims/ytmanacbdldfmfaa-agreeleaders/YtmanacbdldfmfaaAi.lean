/-
 settle, timeout, called.
-/
import Derived.Test.YtmanacbdldfmfaaAh
namespace Go.Proofs.Ytmanacbdldfmfaa
open Go.RowKit
set_option maxRecDepth 10000
def ivW (o : Option Value) : Int := match o with | some (.int _ x) => x | _ => 0
/-- How much is left to do, as the cells tell. -/
def muW (b : Nat) (w : World) : Nat := (63 - ivW (w.cell? ⟨b, 4, none⟩)).toNat * 4 + (3 - ivW (w.cell? ⟨b, 5, none⟩)).toNat + (if ivW (w.cell? ⟨b, 9, none⟩) = ivW (w.cell? ⟨b, 4, none⟩) then 0 else 1)
theorem run_mu {w0 W : World} {F0 : Nat → Prop} {b c d : Nat} {p : Pm} {s : Ag} {out : List Vt} (h : Run w0 F0 b c d p s out W) (hd : s.dn = false) : muW b W + 1 = mu s := by
 obtain ⟨_, _, _, _, c4, c5, _⟩ := h.at
 obtain ⟨_, _, c9⟩ := h.live hd
 unfold muW mu
 rw [c4, c5, c9, hd]
 rfl
theorem dn2 {p : Pm} {s : Ag} {x : Ag × List Vt} (e : r2 p s = some x) : x.1.dn = s.dn ∧ x.2.length ≤ 1 := by
 unfold r2 at e
 split at e
 ·injection e with e; subst e
  unfold beginA
  split
  ·exact ⟨rfl, by simp⟩
  ·refine ⟨rfl, ?_⟩
   dsimp only
   split <;> simp
 ·cases e
theorem dn3 {p : Pm} {s : Ag} {x : Ag × List Vt} (e : r3 p s = some x) : x.1.dn = s.dn ∧ x.2.length ≤ 1 := by
 unfold r3 at e
 split at e
 ·split at e
  ·injection e with e; subst e; exact ⟨rfl, Nat.le_refl _⟩
  ·cases e
 ·cases e
theorem dn5 {p : Pm} {s : Ag} {x : Ag × List Vt} (e : r5 p s = some x) : x.1.dn = s.dn ∧ x.2.length ≤ 1 := by
 unfold r5 at e
 split at e
 ·split at e
  ·injection e with e; subst e
   split
   ·exact ⟨rfl, Nat.le_refl _⟩
   ·exact ⟨rfl, by simp⟩
  ·cases e
 ·cases e
theorem dn6 {p : Pm} {s : Ag} {x : Ag × List Vt} (e : r6 p s = some x) : x.1.dn = s.dn ∧ x.2.length ≤ 1 := by
 unfold r6 at e
 split at e
 ·injection e with e; subst e; exact ⟨rfl, Nat.le_refl _⟩
 ·cases e
theorem r1_done {p : Pm} {s : Ag} {x : Ag × List Vt} (e : r1 p s = some x) : x.1.dn = true ∧ x.2 = [] := by
 unfold r1 at e
 cases q : seekA (hitA p s) 0 64 with
 | none => rw [q] at e; cases e
 | some B => rw [q] at e; simp only [Option.map_some, Option.some.injEq] at e; subst e; exact ⟨rfl, rfl⟩
/-- While rules apply. -/
def SetP (w0 : World) (F0 : Nat → Prop) (b c d : Nat) (p : Pm) (s : Ag) (out : List Vt) (s' : Ag) (out' : List Vt) (wr : World) : Prop :=
 InvA p s' ∧ 0 ≤ s'.rd ∧ s'.dn = false ∧ Run w0 F0 b c d p s' out' wr ∧ (stl p s).1 = (stl p s').1 ∧ out ++ (stl p s).2 = out' ++ (stl p s').2 ∧ out'.length + mu s' ≤ 9000
theorem SetP.next {w0 : World} {F0 : Nat → Prop} {b c d : Nat} {p : Pm} {s s' : Ag} {out out' : List Vt} {wr w1 : World} {x : Ag × List Vt} (h : SetP w0 F0 b c d p s out s' out' wr) (e : ruleA p s' = some x) (hx : x.1.dn = s'.dn ∧ x.2.length ≤ 1) (hR : Run w0 F0 b c d p x.1 (out' ++ x.2) w1) : SetP w0 F0 b c d p s out x.1 (out' ++ x.2) w1 ∧ muW b w1 < muW b wr := by
 obtain ⟨h1, h2, h3, h4, h5, h6, h7⟩ := h
 have q := step_rule h1 h2 h3 e
 obtain ⟨y, o⟩ := x
 have e2 := stl_some h1 h2 h3 e
 have d2 : y.dn = false := hx.1.trans h3
 have m1 := run_mu h4 h3
 have m2 := run_mu hR d2
 have := q.mu
 have := hx.2
 refine ⟨⟨q.inv, q.rd, d2, hR, by rw [h5, e2], by rw [h6, e2, List.append_assoc], ?_⟩, ?_⟩
 ·rw [List.length_append]; dsimp only at *; omega
 ·dsimp only at *; omega
set_option maxHeartbeats 8000000 in
theorem settle_any {w0 W : World} {F0 : Nat → Prop} {b c d : Nat} {p : Pm} {s : Ag} {out : List Vt} (hp : okP p) (hi : InvA p s) (h0 : 0 ≤ s.rd) (hd : s.dn = false) (hl : out.length ≤ 8000) (h : Run w0 F0 b c d p s out W) :
  Calls Try.prog 29 #[.pointer (some ⟨b, 0, none⟩)] W fun e w' => e = .returned (.tuple #[]) ∧ Run w0 F0 b c d p (stl p s).1 (out ++ (stl p s).2) w' := by
 have HS0 : Hid (SetP w0 F0 b c d p s out s out W) := ⟨hi, h0, hd, h, rfl, rfl, by have := mu_le hi h0; omega⟩
 have Hp : Hid (okP p) := hp
 clear h hi h0 hd hl hp
 go_enter Try.func29, Try.ntmps29
 go_wp2_with fail
 go_loopw [] (fun wr => ∃ s' out', Hid (SetP w0 F0 b c d p s out s' out' wr)) (fun wr => muW b wr)
 case atStart => exact ⟨s, out, HS0⟩
 case round =>
  obtain ⟨s', out', HS⟩ := hrel
  clear HS0
  have HA1 := decide_any Hp.out HS.out.1 HS.out.2.2.1 HS.out.2.2.2.1
  have HA2 : Hid (∀ wx, Run w0 F0 b c d p s' out' wx → Calls Try.prog 44 #[.pointer (some ⟨b, 0, none⟩)] wx fun e w' => RuleP (r2 p s') w0 F0 b c d p s' out' e w') := fun wx hw => follow_any Hp.out HS.out.1 HS.out.2.1 HS.out.2.2.1 (by have := HS.out.2.2.2.2.2.2; omega) hw
  have HA3 : Hid (∀ wx, Run w0 F0 b c d p s' out' wx → Calls Try.prog 45 #[.pointer (some ⟨b, 0, none⟩)] wx fun e w' => RuleP (r3 p s') w0 F0 b c d p s' out' e w') := fun wx hw => answer_any Hp.out HS.out.1 HS.out.2.1 HS.out.2.2.1 (by have := HS.out.2.2.2.2.2.2; omega) hw
  have HA5 : Hid (∀ wx, Run w0 F0 b c d p s' out' wx → Calls Try.prog 46 #[.pointer (some ⟨b, 0, none⟩)] wx fun e w' => RuleP (r5 p s') w0 F0 b c d p s' out' e w') := fun wx hw => choose_any Hp.out HS.out.1 HS.out.2.1 HS.out.2.2.1 (by have := HS.out.2.2.2.2.2.2; omega) hw
  have HA6 : Hid (∀ wx, Run w0 F0 b c d p s' out' wx → Calls Try.prog 47 #[.pointer (some ⟨b, 0, none⟩)] wx fun e w' => RuleP (r6 p s') w0 F0 b c d p s' out' e w') := fun wx hw => pass_any Hp.out HS.out.1 HS.out.2.1 HS.out.2.2.1 (by have := HS.out.2.2.2.2.2.2; omega) hw
  have HA1 : Hid (Calls Try.prog 43 #[.pointer (some ⟨b, 0, none⟩)] wr fun e w' => RuleP (r1 p s') w0 F0 b c d p s' out' e w') := HA1
  cases h1 : r1 p s' with
  | some x =>
   rw [h1] at HA1
   have HRl : Hid (ruleA p s' = some x) := by show ruleA p s' = _; unfold ruleA; rw [h1]; rfl
   have HX := r1_done h1
   have HX : Hid (x.1.dn = true ∧ x.2 = []) := HX
   clear h1 HA2 HA3 HA5 HA6
   go_wp2_with fail
   refine HA1.out.mono ?_
   rintro e w1 ⟨rfl, hR⟩
   have HR : Hid (Run w0 F0 b c d p x.1 (out' ++ x.2) w1) := hR
   obtain ⟨hb, _, _, _, _, _, _, _, c139, _⟩ := hR.at
   have hsz := (step_rule HS.out.1 HS.out.2.1 HS.out.2.2.1 HRl.out).inv.dc.2.1 HX.out.1
   have q4 := isEmpty_some hsz
   have q5 := toList_some hsz
   clear hR hsz HA1
   go_wp2_with fail
   refine bodyPost_ret (v := .tuple #[]) (by simp [results, Try.results29, go_sem]) rfl ⟨rfl, ?_⟩
   have e2 := stl_some HS.out.1 HS.out.2.1 HS.out.2.2.1 (s' := x.1) (o := x.2) HRl.out
   rw [HS.out.2.2.2.2.1, HS.out.2.2.2.2.2.1, e2, stl_done HX.out.1, List.append_nil]
   exact HR.out
  | none =>
   rw [h1] at HA1
   cases h2 : r2 p s' with
   | some x =>
    have HRl : Hid (ruleA p s' = some x) := by show ruleA p s' = _; unfold ruleA; rw [h1, h2]; rfl
    have HX : Hid (x.1.dn = s'.dn ∧ x.2.length ≤ 1) := dn2 h2
    have HB2 := HA2.out
    rw [h2] at HB2
    have HB2 : Hid _ := HB2
    clear h1 h2 HA2 HA3 HA5 HA6
    go_wp2_with fail
    refine (HA1.out).mono ?_
    rintro e w1 ⟨rfl, HW1⟩
    have HW1 : Hid _ := HW1
    go_wp2_with fail
    refine (HB2.out _ HW1.out).mono ?_
    rintro e w2 ⟨rfl, HW2⟩
    have HW2 : Hid _ := HW2
    obtain ⟨hN, hM⟩ := HS.out.next HRl.out HX.out HW2.out
    have HN : Hid (SetP w0 F0 b c d p s out x.1 (out' ++ x.2) w2) := hN
    have HM : Hid (muW b w2 < muW b wr) := hM
    obtain ⟨hb, _, _, _, _, _, _, _, c139, _⟩ := Run.at HW2.out
    have hsz : x.1.dc.size = 0 := Classical.byContradiction fun z => by
     have := hN.1.dc.2.2 z
     rw [hN.2.2.1] at this
     cases this
    have q4 := isEmpty_nil hsz
    have q5 := toList_nil hsz
    clear hN hM hsz
    go_wp2_with fail
    go_roundw
    case rel => exact ⟨_, _, HN⟩
    case measure => exact HM.out
   | none =>
    cases h3 : r3 p s' with
    | some x =>
     have HRl : Hid (ruleA p s' = some x) := by show ruleA p s' = _; unfold ruleA; rw [h1, h2, h3]; rfl
     have HX : Hid (x.1.dn = s'.dn ∧ x.2.length ≤ 1) := dn3 h3
     have HB2 := HA2.out
     rw [h2] at HB2
     have HB2 : Hid _ := HB2
     have HB3 := HA3.out
     rw [h3] at HB3
     have HB3 : Hid _ := HB3
     clear h1 h2 h3 HA2 HA3 HA5 HA6
     go_wp2_with fail
     refine (HA1.out).mono ?_
     rintro e w1 ⟨rfl, HW1⟩
     have HW1 : Hid _ := HW1
     go_wp2_with fail
     refine (HB2.out _ HW1.out).mono ?_
     rintro e w2 ⟨rfl, HW2⟩
     have HW2 : Hid _ := HW2
     go_wp2_with fail
     refine (HB3.out _ HW2.out).mono ?_
     rintro e w3 ⟨rfl, HW3⟩
     have HW3 : Hid _ := HW3
     obtain ⟨hN, hM⟩ := HS.out.next HRl.out HX.out HW3.out
     have HN : Hid (SetP w0 F0 b c d p s out x.1 (out' ++ x.2) w3) := hN
     have HM : Hid (muW b w3 < muW b wr) := hM
     obtain ⟨hb, _, _, _, _, _, _, _, c139, _⟩ := Run.at HW3.out
     have hsz : x.1.dc.size = 0 := Classical.byContradiction fun z => by
      have := hN.1.dc.2.2 z
      rw [hN.2.2.1] at this
      cases this
     have q4 := isEmpty_nil hsz
     have q5 := toList_nil hsz
     clear hN hM hsz
     go_wp2_with fail
     go_roundw
     case rel => exact ⟨_, _, HN⟩
     case measure => exact HM.out
    | none =>
     cases h5 : r5 p s' with
     | some x =>
      have HRl : Hid (ruleA p s' = some x) := by show ruleA p s' = _; unfold ruleA; rw [h1, h2, h3, h5]; rfl
      have HX : Hid (x.1.dn = s'.dn ∧ x.2.length ≤ 1) := dn5 h5
      have HB2 := HA2.out
      rw [h2] at HB2
      have HB2 : Hid _ := HB2
      have HB3 := HA3.out
      rw [h3] at HB3
      have HB3 : Hid _ := HB3
      have HB5 := HA5.out
      rw [h5] at HB5
      have HB5 : Hid _ := HB5
      clear h1 h2 h3 h5 HA2 HA3 HA5 HA6
      go_wp2_with fail
      refine (HA1.out).mono ?_
      rintro e w1 ⟨rfl, HW1⟩
      have HW1 : Hid _ := HW1
      go_wp2_with fail
      refine (HB2.out _ HW1.out).mono ?_
      rintro e w2 ⟨rfl, HW2⟩
      have HW2 : Hid _ := HW2
      go_wp2_with fail
      refine (HB3.out _ HW2.out).mono ?_
      rintro e w3 ⟨rfl, HW3⟩
      have HW3 : Hid _ := HW3
      go_wp2_with fail
      refine (HB5.out _ HW3.out).mono ?_
      rintro e w4 ⟨rfl, HW4⟩
      have HW4 : Hid _ := HW4
      obtain ⟨hN, hM⟩ := HS.out.next HRl.out HX.out HW4.out
      have HN : Hid (SetP w0 F0 b c d p s out x.1 (out' ++ x.2) w4) := hN
      have HM : Hid (muW b w4 < muW b wr) := hM
      obtain ⟨hb, _, _, _, _, _, _, _, c139, _⟩ := Run.at HW4.out
      have hsz : x.1.dc.size = 0 := Classical.byContradiction fun z => by
       have := hN.1.dc.2.2 z
       rw [hN.2.2.1] at this
       cases this
      have q4 := isEmpty_nil hsz
      have q5 := toList_nil hsz
      clear hN hM hsz
      go_wp2_with fail
      go_roundw
      case rel => exact ⟨_, _, HN⟩
      case measure => exact HM.out
     | none =>
      cases h6 : r6 p s' with
      | some x =>
       have HRl : Hid (ruleA p s' = some x) := by show ruleA p s' = _; unfold ruleA; rw [h1, h2, h3, h5, h6]; rfl
       have HX : Hid (x.1.dn = s'.dn ∧ x.2.length ≤ 1) := dn6 h6
       have HB2 := HA2.out
       rw [h2] at HB2
       have HB2 : Hid _ := HB2
       have HB3 := HA3.out
       rw [h3] at HB3
       have HB3 : Hid _ := HB3
       have HB5 := HA5.out
       rw [h5] at HB5
       have HB5 : Hid _ := HB5
       have HB6 := HA6.out
       rw [h6] at HB6
       have HB6 : Hid _ := HB6
       clear h1 h2 h3 h5 h6 HA2 HA3 HA5 HA6
       go_wp2_with fail
       refine (HA1.out).mono ?_
       rintro e w1 ⟨rfl, HW1⟩
       have HW1 : Hid _ := HW1
       go_wp2_with fail
       refine (HB2.out _ HW1.out).mono ?_
       rintro e w2 ⟨rfl, HW2⟩
       have HW2 : Hid _ := HW2
       go_wp2_with fail
       refine (HB3.out _ HW2.out).mono ?_
       rintro e w3 ⟨rfl, HW3⟩
       have HW3 : Hid _ := HW3
       go_wp2_with fail
       refine (HB5.out _ HW3.out).mono ?_
       rintro e w4 ⟨rfl, HW4⟩
       have HW4 : Hid _ := HW4
       go_wp2_with fail
       refine (HB6.out _ HW4.out).mono ?_
       rintro e w5 ⟨rfl, HW5⟩
       have HW5 : Hid _ := HW5
       obtain ⟨hN, hM⟩ := HS.out.next HRl.out HX.out HW5.out
       have HN : Hid (SetP w0 F0 b c d p s out x.1 (out' ++ x.2) w5) := hN
       have HM : Hid (muW b w5 < muW b wr) := hM
       obtain ⟨hb, _, _, _, _, _, _, _, c139, _⟩ := Run.at HW5.out
       have hsz : x.1.dc.size = 0 := Classical.byContradiction fun z => by
        have := hN.1.dc.2.2 z
        rw [hN.2.2.1] at this
        cases this
       have q4 := isEmpty_nil hsz
       have q5 := toList_nil hsz
       clear hN hM hsz
       go_wp2_with fail
       go_roundw
       case rel => exact ⟨_, _, HN⟩
       case measure => exact HM.out
      | none =>
       have HRl : Hid (ruleA p s' = none) := by show ruleA p s' = _; unfold ruleA; rw [h1, h2, h3, h5, h6]; rfl
       have HB2 := HA2.out
       rw [h2] at HB2
       have HB2 : Hid _ := HB2
       have HB3 := HA3.out
       rw [h3] at HB3
       have HB3 : Hid _ := HB3
       have HB5 := HA5.out
       rw [h5] at HB5
       have HB5 : Hid _ := HB5
       have HB6 := HA6.out
       rw [h6] at HB6
       have HB6 : Hid _ := HB6
       clear h1 h2 h3 h5 h6 HA2 HA3 HA5 HA6
       go_wp2_with fail
       refine (HA1.out).mono ?_
       rintro e w1 ⟨rfl, HW1⟩
       have HW1 : Hid _ := HW1
       go_wp2_with fail
       refine (HB2.out _ HW1.out).mono ?_
       rintro e w2 ⟨rfl, HW2⟩
       have HW2 : Hid _ := HW2
       go_wp2_with fail
       refine (HB3.out _ HW2.out).mono ?_
       rintro e w3 ⟨rfl, HW3⟩
       have HW3 : Hid _ := HW3
       go_wp2_with fail
       refine (HB5.out _ HW3.out).mono ?_
       rintro e w4 ⟨rfl, HW4⟩
       have HW4 : Hid _ := HW4
       go_wp2_with fail
       refine (HB6.out _ HW4.out).mono ?_
       rintro e w5 ⟨rfl, HW5⟩
       have HW5 : Hid _ := HW5
       go_wp2_with fail
       refine bodyPost_end (v := .tuple #[]) (by simp [results, Try.results29, go_sem]) rfl ⟨rfl, ?_⟩
       rw [HS.out.2.2.2.2.1, HS.out.2.2.2.2.2.1, stl_none HRl.out, List.append_nil]
       exact HW5.out
set_option maxHeartbeats 2000000 in
theorem time_1 {w0 W : World} {F0 : Nat → Prop} {b c d : Nat} {p : Pm} {s : Ag} {out : List Vt} (hp : okP p) (hi : InvA p s) (hd : s.dn = false) (hl : out.length ≤ 9000) (v : Int) (hv : v = 1) (hs : s.st = 1) (h : Run w0 F0 b c d p s out W) :
  Calls Try.prog 42 #[.pointer (some ⟨b, 0, none⟩), .int .i64 v] W fun e w' => e = .returned (.tuple #[]) ∧ Run w0 F0 b c d p (timeA p s v).1 (out ++ (timeA p s v).2) w' := by
 have HR0 : Hid (Run w0 F0 b c d p s out W) := h
 have HL : Hid (out.length ≤ 10000) := Nat.le_trans hl (by decide)
 obtain ⟨hb, _, _, _, c4, c5, _⟩ := h.at
 have u0 := And.intro hp (And.intro hi hd)
 clear u0
 subst hv
 have HN : Hid (timeA p s 1 = voteA p s 2 emp) := if_pos ⟨rfl, hs⟩
 have e1 : (s.st == 1) = true := by simpa using hs
 clear h hp hi hd hl hs
 go_enter Try.func42, Try.ntmps42
 go_wp2_with fail
 refine (prevote_any emp (by decide) HL.out HR0.out).mono ?_
 rintro e w1 ⟨rfl, hR⟩
 have HR : Hid _ := hR
 clear hR
 go_wp2_with fail
 refine bodyPost_end (v := .tuple #[]) (by simp [results, Try.results42, go_sem]) rfl ⟨rfl, ?_⟩
 rw [HN.out]
 exact HR.out
set_option maxHeartbeats 2000000 in
theorem time_2 {w0 W : World} {F0 : Nat → Prop} {b c d : Nat} {p : Pm} {s : Ag} {out : List Vt} (hp : okP p) (hi : InvA p s) (hd : s.dn = false) (hl : out.length ≤ 9000) (v : Int) (hv : v = 2) (hs : s.st = 2) (h : Run w0 F0 b c d p s out W) :
  Calls Try.prog 42 #[.pointer (some ⟨b, 0, none⟩), .int .i64 v] W fun e w' => e = .returned (.tuple #[]) ∧ Run w0 F0 b c d p (timeA p s v).1 (out ++ (timeA p s v).2) w' := by
 have HR0 : Hid (Run w0 F0 b c d p s out W) := h
 have HL : Hid (out.length ≤ 10000) := Nat.le_trans hl (by decide)
 obtain ⟨hb, _, _, _, c4, c5, _⟩ := h.at
 have u0 := And.intro hp (And.intro hi hd)
 clear u0
 subst hv
 have HN : Hid (timeA p s 2 = voteA p s 3 emp) := by show timeA p s 2 = _; unfold timeA; rw [if_neg (by rintro ⟨q, _⟩; cases q), if_pos ⟨rfl, hs⟩]
 have e1 : (s.st == 2) = true := by simpa using hs
 clear h hp hi hd hl hs
 go_enter Try.func42, Try.ntmps42
 go_wp2_with fail
 refine (precommit_any emp (by decide) HL.out HR0.out).mono ?_
 rintro e w1 ⟨rfl, hR⟩
 have HR : Hid _ := hR
 clear hR
 go_wp2_with fail
 refine bodyPost_end (v := .tuple #[]) (by simp [results, Try.results42, go_sem]) rfl ⟨rfl, ?_⟩
 rw [HN.out]
 exact HR.out
set_option maxHeartbeats 2000000 in
theorem time_3 {w0 W : World} {F0 : Nat → Prop} {b c d : Nat} {p : Pm} {s : Ag} {out : List Vt} (hp : okP p) (hi : InvA p s) (hd : s.dn = false) (hl : out.length ≤ 9000) (v : Int) (hv : v = 3) (h : Run w0 F0 b c d p s out W) :
  Calls Try.prog 42 #[.pointer (some ⟨b, 0, none⟩), .int .i64 v] W fun e w' => e = .returned (.tuple #[]) ∧ Run w0 F0 b c d p (timeA p s v).1 (out ++ (timeA p s v).2) w' := by
 have HR0 : Hid (Run w0 F0 b c d p s out W) := h
 have HL : Hid (out.length ≤ 10000) := Nat.le_trans hl (by decide)
 obtain ⟨hb, _, _, _, c4, c5, _⟩ := h.at
 have u0 := And.intro hp (And.intro hi hd)
 clear u0
 subst hv
 have HN : Hid (timeA p s 3 = beginA p s (s.rd + 1)) := by show timeA p s 3 = _; unfold timeA; rw [if_neg (by rintro ⟨q, _⟩; cases q), if_neg (by rintro ⟨q, _⟩; cases q), if_pos rfl]
 have HB : Hid (Calls Try.prog 32 #[.pointer (some ⟨b, 0, none⟩), .int .i64 (s.rd + 1)] W fun e w' => e = .returned (.tuple #[]) ∧ Run w0 F0 b c d p (beginA p s (s.rd + 1)).1 (out ++ (beginA p s (s.rd + 1)).2) w') := begin_any _ hp hi hd HL.out h
 have qw : IntKind.i64.wrap (s.rd + 1) = s.rd + 1 := by rw [IntKind.wrap_i64]; have := hi.rd; omega
 clear h hp hi hd hl
 go_enter Try.func42, Try.ntmps42
 go_wp2_with fail
 refine (HB.out).mono ?_
 rintro e w1 ⟨rfl, hR⟩
 have HR : Hid _ := hR
 clear hR
 go_wp2_with fail
 refine bodyPost_end (v := .tuple #[]) (by simp [results, Try.results42, go_sem]) rfl ⟨rfl, ?_⟩
 rw [HN.out]
 exact HR.out
set_option maxHeartbeats 2000000 in
theorem time_1n {w0 W : World} {F0 : Nat → Prop} {b c d : Nat} {p : Pm} {s : Ag} {out : List Vt} (hp : okP p) (hi : InvA p s) (hd : s.dn = false) (hl : out.length ≤ 9000) (v : Int) (hv : v = 1) (hs : ¬ s.st = 1) (h : Run w0 F0 b c d p s out W) :
  Calls Try.prog 42 #[.pointer (some ⟨b, 0, none⟩), .int .i64 v] W fun e w' => e = .returned (.tuple #[]) ∧ Run w0 F0 b c d p (timeA p s v).1 (out ++ (timeA p s v).2) w' := by
 have HR0 : Hid (Run w0 F0 b c d p s out W) := h
 have HL : Hid (out.length ≤ 10000) := Nat.le_trans hl (by decide)
 obtain ⟨hb, _, _, _, c4, c5, _⟩ := h.at
 have u0 := And.intro hp (And.intro hi hd)
 clear u0
 subst hv
 have HN : Hid (timeA p s 1 = (s, [])) := by show timeA p s 1 = _; unfold timeA; rw [if_neg (fun q => hs q.2), if_neg (by rintro ⟨q, _⟩; cases q), if_neg (by decide)]
 have e1 : (s.st == 1) = false := by simpa using hs
 clear h hp hi hd hl hs
 go_enter Try.func42, Try.ntmps42
 go_wp2_with fail
 refine bodyPost_end (v := .tuple #[]) (by simp [results, Try.results42, go_sem]) rfl ⟨rfl, ?_⟩
 rw [HN.out, List.append_nil]
 exact HR0.out
set_option maxHeartbeats 2000000 in
theorem time_2n {w0 W : World} {F0 : Nat → Prop} {b c d : Nat} {p : Pm} {s : Ag} {out : List Vt} (hp : okP p) (hi : InvA p s) (hd : s.dn = false) (hl : out.length ≤ 9000) (v : Int) (hv : v = 2) (hs : ¬ s.st = 2) (h : Run w0 F0 b c d p s out W) :
  Calls Try.prog 42 #[.pointer (some ⟨b, 0, none⟩), .int .i64 v] W fun e w' => e = .returned (.tuple #[]) ∧ Run w0 F0 b c d p (timeA p s v).1 (out ++ (timeA p s v).2) w' := by
 have HR0 : Hid (Run w0 F0 b c d p s out W) := h
 have HL : Hid (out.length ≤ 10000) := Nat.le_trans hl (by decide)
 obtain ⟨hb, _, _, _, c4, c5, _⟩ := h.at
 have u0 := And.intro hp (And.intro hi hd)
 clear u0
 subst hv
 have HN : Hid (timeA p s 2 = (s, [])) := by show timeA p s 2 = _; unfold timeA; rw [if_neg (by rintro ⟨q, _⟩; cases q), if_neg (fun q => hs q.2), if_neg (by decide)]
 have e1 : (s.st == 2) = false := by simpa using hs
 clear h hp hi hd hl hs
 go_enter Try.func42, Try.ntmps42
 go_wp2_with fail
 refine bodyPost_end (v := .tuple #[]) (by simp [results, Try.results42, go_sem]) rfl ⟨rfl, ?_⟩
 rw [HN.out, List.append_nil]
 exact HR0.out
set_option maxHeartbeats 2000000 in
theorem time_n {w0 W : World} {F0 : Nat → Prop} {b c d : Nat} {p : Pm} {s : Ag} {out : List Vt} (hp : okP p) (hi : InvA p s) (hd : s.dn = false) (hl : out.length ≤ 9000) (v : Int) (h1 : ¬ v = 1) (h2 : ¬ v = 2) (h3 : ¬ v = 3) (h : Run w0 F0 b c d p s out W) :
  Calls Try.prog 42 #[.pointer (some ⟨b, 0, none⟩), .int .i64 v] W fun e w' => e = .returned (.tuple #[]) ∧ Run w0 F0 b c d p (timeA p s v).1 (out ++ (timeA p s v).2) w' := by
 have HR0 : Hid (Run w0 F0 b c d p s out W) := h
 have HL : Hid (out.length ≤ 10000) := Nat.le_trans hl (by decide)
 obtain ⟨hb, _, _, _, c4, c5, _⟩ := h.at
 have u0 := And.intro hp (And.intro hi hd)
 clear u0
 have HN : Hid (timeA p s v = (s, [])) := by show timeA p s v = _; unfold timeA; rw [if_neg (fun q => h1 q.1), if_neg (fun q => h2 q.1), if_neg h3]
 have e1 : (v == 1) = false := by simpa using h1
 have e2 : (v == 2) = false := by simpa using h2
 have e3 : (v == 3) = false := by simpa using h3
 clear h hp hi hd hl h1 h2 h3
 go_enter Try.func42, Try.ntmps42
 go_wp2_with fail
 refine bodyPost_end (v := .tuple #[]) (by simp [results, Try.results42, go_sem]) rfl ⟨rfl, ?_⟩
 rw [HN.out, List.append_nil]
 exact HR0.out
theorem time_any {w0 W : World} {F0 : Nat → Prop} {b c d : Nat} {p : Pm} {s : Ag} {out : List Vt} (hp : okP p) (hi : InvA p s) (hd : s.dn = false) (hl : out.length ≤ 9000) (v : Int) (h : Run w0 F0 b c d p s out W) :
  Calls Try.prog 42 #[.pointer (some ⟨b, 0, none⟩), .int .i64 v] W fun e w' => e = .returned (.tuple #[]) ∧ Run w0 F0 b c d p (timeA p s v).1 (out ++ (timeA p s v).2) w' := by
 by_cases h1 : v = 1
 ·by_cases hs : s.st = 1
  ·exact time_1 hp hi hd hl v h1 hs h
  ·exact time_1n hp hi hd hl v h1 hs h
 by_cases h2 : v = 2
 ·by_cases hs : s.st = 2
  ·exact time_2 hp hi hd hl v h2 hs h
  ·exact time_2n hp hi hd hl v h2 hs h
 by_cases h3 : v = 3
 ·exact time_3 hp hi hd hl v h3 h
 exact time_n hp hi hd hl v h1 h2 h3 h
end Go.Proofs.Ytmanacbdldfmfaa

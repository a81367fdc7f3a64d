/-
 follow (rule 2), pass (rule 6), called.
-/
import Derived.Test.YtmanacbdldfmfaaAe
namespace Go.Proofs.Ytmanacbdldfmfaa
open Go.RowKit
set_option maxRecDepth 10000

theorem Run.ahead {w0 W : World} {F0 : Nat → Prop} {b c d : Nat} {p : Pm} {s : Ag} {out : List Vt} (hp : okP p) (hi : InvA p s) (hd : s.dn = false) (q : Int) (h : Run w0 F0 b c d p s out W) : ∃ a, W.cell? ⟨b, 138, none⟩ = some (.pointer (some a)) ∧ ∀ wx, Ext W wx → Calls Try.prog 57 #[.pointer (some a), .int .i64 q] wx fun e w' => e = .returned (.int .i64 (aheadV p.n p.t s.vs q)) ∧ Ext wx w' := by
 obtain ⟨vp, G, u, h⟩ := h
 obtain ⟨vb, bm, sl, rfl, hV, _⟩ := h.ab.vot hd
 exact ⟨_, (h.ab.live hd).2.2.2, fun wx hx => vahead_any hi.vs (by have := hp.1.2.2.2; omega) wx (hV.ext hx)⟩
set_option maxHeartbeats 4000000 in
theorem follow_any {w0 W : World} {F0 : Nat → Prop} {b c d : Nat} {p : Pm} {s : Ag} {out : List Vt} (hp : okP p) (hi : InvA p s) (h0 : 0 ≤ s.rd) (hd : s.dn = false) (hl : out.length ≤ 9000) (h : Run w0 F0 b c d p s out W) : Calls Try.prog 44 #[.pointer (some ⟨b, 0, none⟩)] W fun e w' => RuleP (r2 p s) w0 F0 b c d p s out e w' := by
 have HR0 : Hid (Run w0 F0 b c d p s out W) := h
 have H0 : Hid (0 ≤ s.rd) := h0
 obtain ⟨av, c138, hA⟩ := h.ahead hp hi hd s.rd
 have HA : Hid (∀ wx, Ext W wx → Calls Try.prog 57 #[.pointer (some av), .int .i64 s.rd] wx fun e w' => e = .returned (.int .i64 (aheadV p.n p.t s.vs s.rd)) ∧ Ext wx w') := hA
 have HC : Hid (∀ wx, Ext W wx → b < wx.heap.size ∧ wx.cell? ⟨b, 4, none⟩ = some (.int .i64 s.rd) ∧ wx.cell? ⟨b, 138, none⟩ = some (.pointer (some av))) := fun wx hx => by
  obtain ⟨hb, _, _, _, c4, _⟩ := (HR0.out.ext hx).at
  exact ⟨hb, c4, later hx c138⟩
 have HBg : Hid (∀ wx, Run w0 F0 b c d p s out wx → Calls Try.prog 32 #[.pointer (some ⟨b, 0, none⟩), .int .i64 (aheadV p.n p.t s.vs s.rd)] wx fun e w' => e = .returned (.tuple #[]) ∧ Run w0 F0 b c d p (beginA p s (aheadV p.n p.t s.vs s.rd)).1 (out ++ (beginA p s (aheadV p.n p.t s.vs s.rd)).2) w') := fun wx hw => begin_any _ hp hi hd (by omega) hw
 have HS : Ext W W.drew := (Ext.refl W).drew
 clear h hp hi hd hl hA c138 h0
 go_enter Try.func44, Try.ntmps44
 go_wp2_with fail
 refine wp_region_noPanic ?_
 refine wp_region_held (S := Ext W) (by kernel_rfl) ?_
 rw [show ({ W with drawn := W.drawn + 1 } : World) = W.drew from rfl]
 refine takeH (i := 0) (v := ?vf0) ?hyf0 HS ?restf0
 case hyf0 => (intro wx hSx; obtain ⟨hb, c4, c138⟩ := HC.out _ hSx; go_simp; try with_reducible rfl)
 try simp only [sx]
 refine takeH (i := 1) (v := ?vf1) ?hyf1 HS ?restf1
 case hyf1 => (intro wx hSx; obtain ⟨hb, c4, c138⟩ := HC.out _ hSx; go_simp; try with_reducible rfl)
 try simp only [sx]
 refine takeH (i := 2) (v := ?vf2) ?hyf2 HS ?restf2
 case hyf2 => (intro wx hSx; obtain ⟨hb, c4, c138⟩ := HC.out _ hSx; go_simp; try with_reducible rfl)
 try simp only [sx]
 refine takeH (i := 3) (v := ?vf3) ?hyf3 HS ?restf3
 case hyf3 => (intro wx hSx; obtain ⟨hb, c4, c138⟩ := HC.out _ hSx; go_simp; try with_reducible rfl)
 try simp only [sx]
 refine takeH (i := 4) (v := ?vf4) ?hyf4 HS ?restf4
 case hyf4 => (intro wx hSx; obtain ⟨hb, c4, c138⟩ := HC.out _ hSx; go_simp; try with_reducible rfl)
 try simp only [sx]
 refine takeH (i := 5) (v := ?vf5) ?hyf5 HS ?restf5
 case hyf5 => (intro wx hSx; obtain ⟨hb, c4, c138⟩ := HC.out _ hSx; go_simp; try with_reducible rfl)
 try simp only [sx]
 refine takeH (i := 6) (v := ?vf6) ?hyf6 HS ?restf6
 case hyf6 => (intro wx hSx; obtain ⟨hb, c4, c138⟩ := HC.out _ hSx; go_simp; try with_reducible rfl)
 try simp only [sx]
 refine takeH (i := 7) (v := ?vf7) ?hyf7 HS ?restf7
 case hyf7 => (intro wx hSx; obtain ⟨hb, c4, c138⟩ := HC.out _ hSx; go_simp; try with_reducible rfl)
 try simp only [sx]
 refine held_one (i := 8) (by kernel_rfl) rfl rfl (fun K hK => ?_)
 go_simp
 refine (HA.out _ HS).mono ?_
 rintro e w3 ⟨rfl, HX3⟩
 have HSb : Ext W w3 := HS.trans HX3
 try go_simp
 refine hK.out _ _ ⟨HSb, ?_⟩
 clear hK K
 try simp only [sx]
 refine takeH (i := 9) (v := ?vf9) ?hyf9 HSb ?restf9
 case hyf9 => (intro wx hSx; obtain ⟨hb, c4, c138⟩ := HC.out _ hSx; go_simp; try with_reducible rfl)
 try simp only [sx]
 refine wpAnyH_done (by kernel_rfl) ?_ _
 refine NoPanic.normal ?_
 have HR : Hid (Run w0 F0 b c d p s out w3) := HR0.out.ext HSb
 clear HS HSb HX3
 by_cases ha : aheadV p.n p.t s.vs s.rd < 0
 ·have da : decide (aheadV p.n p.t s.vs s.rd < 0) = true := decide_eq_true ha
  have HN : Hid (r2 p s = none) := if_neg (by have := H0.out; omega)
  clear ha
  go_wp2_with fail
  refine bodyPost_ret (v := .bool false) (by simp [results, Try.results44, go_sem]) rfl ?_
  unfold RuleP
  rw [HN.out]
  exact ⟨rfl, HR.out⟩
 ·have da : decide (aheadV p.n p.t s.vs s.rd < 0) = false := decide_eq_false ha
  have HN : Hid (r2 p s = some (beginA p s (aheadV p.n p.t s.vs s.rd))) := if_pos (by have := ahead_range p.n p.t s.vs s.rd; omega)
  clear ha
  go_wp2_with fail
  refine (HBg.out _ HR.out).mono ?_
  rintro e w4 ⟨rfl, HR4⟩
  have HR4 : Hid _ := HR4
  go_wp2_with fail
  refine bodyPost_ret (v := .bool true) (by simp [results, Try.results44, go_sem]) rfl ?_
  unfold RuleP
  rw [HN.out]
  exact ⟨rfl, HR4.out⟩
set_option maxHeartbeats 4000000 in
theorem pass_any {w0 W : World} {F0 : Nat → Prop} {b c d : Nat} {p : Pm} {s : Ag} {out : List Vt} (hp : okP p) (hi : InvA p s) (h0 : 0 ≤ s.rd) (hd : s.dn = false) (hl : out.length ≤ 9000) (h : Run w0 F0 b c d p s out W) : Calls Try.prog 47 #[.pointer (some ⟨b, 0, none⟩)] W fun e w' => RuleP (r6 p s) w0 F0 b c d p s out e w' := by
 have HR0 : Hid (Run w0 F0 b c d p s out W) := h
 have HM : Hid (Calls Try.prog 56 #[.pointer (some ⟨b, 0, none⟩), .int .i64 2, .int .i64 s.rd, .string ⟨#[]⟩] W fun e w' => e = .returned (.bool (isA p s.vs 2 s.rd emp)) ∧ Ext W w') := h.most hp hi hd emp wf2 (WalkArith.wf_i64 (by have := hi.rd; omega))
 have HL : Hid (out.length ≤ 10000) := Nat.le_trans hl (by decide)
 obtain ⟨hb, _, _, _, c4, c5, _⟩ := h.at
 clear h hp hi hd hl h0
 by_cases hs : s.st = 2
 ·have e2 : (s.st != 2) = false := by simp [hs]
  go_enter Try.func47, Try.ntmps47
  go_wp2_with fail
  refine HM.out.mono ?_
  rintro e w1 ⟨rfl, HX⟩
  have HR : Hid (Run w0 F0 b c d p s out w1) := HR0.out.ext HX
  clear HX HM HR0 hb c4 c5 e2
  by_cases hm : isA p s.vs 2 s.rd emp = true
  ·rw [hm]
   have HN : Hid (r6 p s = some (voteA p s 3 emp)) := if_pos ⟨hs, hm⟩
   clear hm hs
   go_wp2_with fail
   refine (precommit_any emp (by decide) HL.out HR.out).mono ?_
   rintro e w2 ⟨rfl, HR2⟩
   have HR2 : Hid _ := HR2
   go_wp2_with fail
   refine bodyPost_ret (v := .bool true) (by simp [results, Try.results47, go_sem]) rfl ?_
   unfold RuleP
   rw [HN.out]
   exact ⟨rfl, HR2.out⟩
  ·have hm2 : isA p s.vs 2 s.rd emp = false := by simpa using hm
   rw [hm2]
   have HN : Hid (r6 p s = none) := if_neg (fun q => hm q.2)
   clear hm hm2 hs
   go_wp2_with fail
   refine bodyPost_ret (v := .bool false) (by simp [results, Try.results47, go_sem]) rfl ?_
   unfold RuleP
   rw [HN.out]
   exact ⟨rfl, HR.out⟩
 ·have e2 : (s.st != 2) = true := by simpa using hs
  have HN : Hid (r6 p s = none) := if_neg (fun q => hs q.1)
  clear hs
  go_enter Try.func47, Try.ntmps47
  go_wp2_with fail
  refine bodyPost_ret (v := .bool false) (by simp [results, Try.results47, go_sem]) rfl ?_
  unfold RuleP
  rw [HN.out]
  exact ⟨rfl, HR0.out⟩
end Go.Proofs.Ytmanacbdldfmfaa

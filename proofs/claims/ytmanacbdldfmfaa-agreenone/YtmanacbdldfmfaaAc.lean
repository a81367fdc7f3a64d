/-
 While a part runs: what it says goes into a row; most, the function in the field, begin, prevote, precommit, called.
-/
import Derived.Test.YtmanacbdldfmfaaAb
namespace Go.Proofs.Ytmanacbdldfmfaa
open Go.RowKit
set_option maxRecDepth 10000
/-- Where what is said goes. -/
abbrev sayF (c d : Nat) : Value := .func (.func 39) #[] #[.pointer (some ⟨c, 0, none⟩), .pointer (some ⟨d, 0, none⟩)]
/-- A part that runs: begun at w0, with the blocks F0. -/
structure RX (w0 : World) (F0 : Nat → Prop) (b c d : Nat) (p : Pm) (s : Ag) (out : List Vt) (vp : Value) (G : Nat → Prop) (u : Value) (W : World) : Prop where
 ab : AB W b p s vp (sayF c d) G
 sub : Sub G F0 w0
 chg : Chg F0 w0 W
 hc : Blk W c 1 (fun _ => u)
 hd : Blk W d 1 (fun _ => .pointer (some ⟨b, 0, none⟩))
 c0 : w0.heap.size ≤ c
 d0 : w0.heap.size ≤ d
 cd : c ≠ d
 gc : ¬ G c
 gd : ¬ G d
 own : W.ownsRow w0.heap.size 39 5 u out.length (wcs out)
 ou : ∀ k, u.ownBlock = some k → ¬ G k ∧ k ≠ c ∧ k ≠ d
def Run (w0 : World) (F0 : Nat → Prop) (b c d : Nat) (p : Pm) (s : Ag) (out : List Vt) (W : World) : Prop := ∃ vp G u, RX w0 F0 b c d p s out vp G u W
section
variable {w0 W W' : World} {F0 : Nat → Prop} {b c d : Nat} {p : Pm} {s s' : Ag} {out : List Vt} {vp : Value} {G : Nat → Prop} {u : Value}
theorem RX.ext (h : RX w0 F0 b c d p s out vp G u W) (hx : Ext W W') : RX w0 F0 b c d p s out vp G u W' :=
 ⟨h.ab.ext hx, h.sub, h.chg.thenExt hx, h.hc.ext hx, h.hd.ext hx, h.c0, h.d0, h.cd, h.gc, h.gd, own_ext h.own hx, h.ou⟩
theorem Run.ext (h : Run w0 F0 b c d p s out W) (hx : Ext W W') : Run w0 F0 b c d p s out W' := by
 obtain ⟨vp, G, u, h⟩ := h
 exact ⟨vp, G, u, h.ext hx⟩
theorem RX.put (h : RX w0 F0 b c d p s out vp G u W) {i : Nat} (hi : i < 141) (v : Value) (hac : ∀ g, AC p s vp (sayF c d) g → AC p s' vp (sayF c d) (fun j => if j = i then v else g j)) (hd : s'.dn = s.dn) (hv : s'.vs = s.vs) : RX w0 F0 b c d p s' out vp G u (W.setCell ⟨b, i, none⟩ v) := by
 have nc : c ≠ b := fun z => h.gc (z ▸ h.ab.inG)
 have nd : d ≠ b := fun z => h.gd (z ▸ h.ab.inG)
 exact ⟨h.ab.put hi v hac hd hv, h.sub, h.chg.st (h.sub b h.ab.inG), h.hc.st nc, h.hd.st nd, h.c0, h.d0, h.cd, h.gc, h.gd, own_setCell h.own (fun z => (h.ou b z).1 h.ab.inG), h.ou⟩
theorem Run.setRd (h : Run w0 F0 b c d p s out W) (r : Int) : Run w0 F0 b c d p { s with rd := r } out (W.setCell ⟨b, 4, none⟩ (.int .i64 r)) := by
 obtain ⟨vp, G, u, h⟩ := h
 exact ⟨vp, G, u, h.put (by decide) _ (fun g q => q.setRd r) rfl rfl⟩
theorem Run.setSt (h : Run w0 F0 b c d p s out W) (r : Int) : Run w0 F0 b c d p { s with st := r } out (W.setCell ⟨b, 5, none⟩ (.int .i64 r)) := by
 obtain ⟨vp, G, u, h⟩ := h
 exact ⟨vp, G, u, h.put (by decide) _ (fun g q => q.setSt r) rfl rfl⟩
theorem Run.setLk (h : Run w0 F0 b c d p s out W) (B : ByteArray) : Run w0 F0 b c d p { s with lk := B } out (W.setCell ⟨b, 6, none⟩ (.string B)) := by
 obtain ⟨vp, G, u, h⟩ := h
 exact ⟨vp, G, u, h.put (by decide) _ (fun g q => q.setLk B) rfl rfl⟩
theorem Run.setLr (h : Run w0 F0 b c d p s out W) (r : Int) : Run w0 F0 b c d p { s with lr := r } out (W.setCell ⟨b, 7, none⟩ (.int .i64 r)) := by
 obtain ⟨vp, G, u, h⟩ := h
 exact ⟨vp, G, u, h.put (by decide) _ (fun g q => q.setLr r) rfl rfl⟩
theorem Run.setVv (h : Run w0 F0 b c d p s out W) (B : ByteArray) : Run w0 F0 b c d p { s with vv := B } out (W.setCell ⟨b, 8, none⟩ (.string B)) := by
 obtain ⟨vp, G, u, h⟩ := h
 exact ⟨vp, G, u, h.put (by decide) _ (fun g q => q.setVv B) rfl rfl⟩
theorem Run.setVr (h : Run w0 F0 b c d p s out W) (r : Int) : Run w0 F0 b c d p { s with vr := r } out (W.setCell ⟨b, 9, none⟩ (.int .i64 r)) := by
 obtain ⟨vp, G, u, h⟩ := h
 exact ⟨vp, G, u, h.put (by decide) _ (fun g q => q.setVr r) rfl rfl⟩
theorem RX.setP (h : RX w0 F0 b c d p s out vp G u W) (m : Vt) (r : Nat) (h6 : r < 64) (hr : m.rd = (r : Int)) (hn : propA s.ps m.rd = none) : RX w0 F0 b c d p { s with ps := s.ps ++ [m] } out vp G u ((W.setCell ⟨b, 10 + r * 2, none⟩ (.string m.vl)).setCell ⟨b, 10 + r * 2 + 1, none⟩ (.int .i64 m.va)) := by
 have nc : c ≠ b := fun z => h.gc (z ▸ h.ab.inG)
 have nd : d ≠ b := fun z => h.gd (z ▸ h.ab.inG)
 exact ⟨h.ab.put2 (by omega) (by omega) _ _ (fun g q => q.setP m r h6 hr hn) rfl rfl, h.sub, (h.chg.st (h.sub b h.ab.inG)).st (h.sub b h.ab.inG), (h.hc.st nc).st nc, (h.hd.st nd).st nd, h.c0, h.d0, h.cd, h.gc, h.gd, own_setCell (own_setCell h.own (fun z => (h.ou b z).1 h.ab.inG)) (fun z => (h.ou b z).1 h.ab.inG), h.ou⟩
/-- A word is said. -/
theorem RX.said (h : RX w0 F0 b c d p s out vp G u W) {W5 : World} {u' : Value} (m : Vt) (hc : Chg (fun k => u.ownBlock = some k) W W5) (hu : W5.ownsRow w0.heap.size 39 5 u' (out.length + 1) (wcs out ++ [.int .i64 m.kd, .int .i64 m.fr, .int .i64 m.rd, .int .i64 m.va, .string m.vl]))
  (hk : u'.ownBlock = u.ownBlock ∨ ∃ k, u'.ownBlock = some k ∧ W.heap.size ≤ k) : RX w0 F0 b c d p s (out ++ [m]) vp G u' (W5.setCell ⟨c, 0, none⟩ u') := by
 have hG : ∀ k, G k → W5.heap[k]? = W.heap[k]? := fun k q => hc.block k (h.ab.lt k q) (fun z => (h.ou k z).1 q)
 have hcb : W5.heap[c]? = W.heap[c]? := hc.block c h.hc.1 (fun z => (h.ou c z).2.1 rfl)
 have hdb : W5.heap[d]? = W.heap[d]? := hc.block d h.hd.1 (fun z => (h.ou d z).2.2 rfl)
 have hou : ∀ k, u'.ownBlock = some k → ¬ G k ∧ k ≠ c ∧ k ≠ d := fun k q => by
  rcases hk with e | ⟨j, e, hj⟩
  ·exact h.ou k (e ▸ q)
  ·rw [e] at q
   injection q with q
   subst q
   have := h.hc.1; have := h.hd.1
   exact ⟨fun z => by have := h.ab.lt j z; omega, by omega, by omega⟩
 have ab5 := h.ab.keep hc.size hG
 have c5 := h.hc.keep hc.size hcb
 refine ⟨ab5.keep (by simp) fun k q => Below.heap_setCell W5 ⟨c, 0, none⟩ u' k (fun z => h.gc (by rw [show c = k from z.symm]; exact q)), h.sub, (h.chg.trans hc (fun k q => ?_)).st (.inr h.c0), (c5.put (i := 0) (by decide) u').congr (fun j hj => ?_), (h.hd.keep hc.size hdb).st (fun z => h.cd z.symm), h.c0, h.d0, h.cd, h.gc, h.gd, ?_, hou⟩
 ·exact .inr (h.own.lt k q).1
 ·have : j = 0 := by omega
  subst this; rfl
 ·rw [wcs_snoc, len_snocV]
  exact own_setCell hu (fun z => (hou c z).2.1 rfl)
end
theorem beq_txt (a b : ByteArray) : (a.toList == b.toList) = decide (a = b) := by
 by_cases e : a = b
 ·rw [toList_same e, decide_eq_true e]
 ·rw [toList_ne e, decide_eq_false e]
theorem is_of {p : Pm} {vs : List Vt} (hi : InvV p.n vs) {k r : Int} {B s : ByteArray} {c : Bool} (h : MostP (qmV p.n p.t) vs k r s c) : isA p vs k r B = (c && decide (s = B)) := by
 unfold isA
 rcases h with ⟨rfl, h⟩ | ⟨rfl, rfl, h⟩
 ·by_cases e : s = B
  ·subst e; simp [h]
  ·rw [decide_eq_false e]
   simp only [Bool.and_false, decide_eq_false_iff_not]
   exact fun q => e (most_one hi h q)
 ·simp only [Bool.false_and, decide_eq_false_iff_not]
  have := h B
  omega
set_option maxHeartbeats 1000000 in
theorem most_any {W : World} {b : Nat} {p : Pm} {s : Ag} {vp f : Value} {G : Nat → Prop} (hp : okP p) (hi : InvA p s) (hd : s.dn = false) {k r : Int} (B : ByteArray) (hk : (Lit.int .i64 k).wf = true) (hr : (Lit.int .i64 r).wf = true) (h : AB W b p s vp f G) :
  Calls Try.prog 56 #[.pointer (some ⟨b, 0, none⟩), .int .i64 k, .int .i64 r, .string B] W fun e w' => e = .returned (.bool (isA p s.vs k r B)) ∧ Ext W w' := by
 obtain ⟨hb, _⟩ := h.at
 obtain ⟨_, _, _, c138⟩ := h.live hd
 obtain ⟨vb, bm, sl, rfl, hV, _, _⟩ := h.vot hd
 have HV : Hid (Calls Try.prog 62 #[.pointer (some ⟨vb, 0, none⟩), .int .i64 k, .int .i64 r] W fun e w' => MostR p.n p.t s.vs k r W e w') := vmost_any hi.vs (by have := hp.1.2.2.2; omega) (by have := hp.1.2.1; omega) hk hr W hV
 have HI : Hid (InvV p.n s.vs) := hi.vs
 clear h hV hi hp hd hk hr
 go_enter Try.func56, Try.ntmps56
 go_wp2_with fail
 refine HV.out.mono ?_
 rintro e w1 ⟨z, c, rfl, hm, HX⟩
 have Hm : Hid (isA p s.vs k r B = (c && decide (z = B))) := is_of HI.out hm
 have HX1 : Hid (Ext W w1) := HX
 clear hm HX HV
 cases c with
 | true =>
  go_wp2
  go_ret
  exact ⟨by rw [Hm.out, Bool.true_and, ← beq_txt]; rfl, HX1.out⟩
 | false =>
  go_wp2
  go_ret
  exact ⟨by rw [Hm.out]; rfl, HX1.out⟩
set_option maxHeartbeats 4000000 in
theorem say_any {w0 W : World} {F0 : Nat → Prop} {b c d : Nat} {p : Pm} {s : Ag} {out : List Vt} (k v : Int) (B : ByteArray) (hB : B.size ≤ 4096) (hl : out.length ≤ 10000) (h : Run w0 F0 b c d p s out W) :
  Calls Try.prog 39 #[.int .i64 k, .int .i64 v, .string B, .pointer (some ⟨c, 0, none⟩), .pointer (some ⟨d, 0, none⟩)] W fun e w' => e = .returned (.tuple #[]) ∧ Run w0 F0 b c d p s (out ++ [⟨k, p.me, s.rd, v, B⟩]) w' := by
 obtain ⟨vp, G, u, h⟩ := h
 have HR : Hid (RX w0 F0 b c d p s out vp G u W) := h
 have HL : Hid (out.length ≤ 10000) := hl
 have HC : Hid (∀ wx, Chg (fun k => u.ownBlock = some k) W wx → c < wx.heap.size ∧ d < wx.heap.size ∧ b < wx.heap.size ∧ wx.cell? ⟨c, 0, none⟩ = some u ∧ wx.cell? ⟨d, 0, none⟩ = some (.pointer (some ⟨b, 0, none⟩)) ∧ wx.cell? ⟨b, 1, none⟩ = some (.int .i64 p.me) ∧ wx.cell? ⟨b, 4, none⟩ = some (.int .i64 s.rd) ∧ wx.frozen? ⟨c, 0, none⟩ = false) := fun wx hx => by
  obtain ⟨hb, _, c1, _, c4, _⟩ := h.ab.at
  have nb : ¬ u.ownBlock = some b := fun z => (h.ou b z).1 h.ab.inG
  have nc : ¬ u.ownBlock = some c := fun z => (h.ou c z).2.1 rfl
  have nd : ¬ u.ownBlock = some d := fun z => (h.ou d z).2.2 rfl
  have lc := h.hc.1
  have ld := h.hd.1
  exact ⟨Nat.lt_of_lt_of_le lc hx.size, Nat.lt_of_lt_of_le ld hx.size, Nat.lt_of_lt_of_le hb hx.size, (hx.cell lc nc).trans (h.hc.2 0 (by decide)).1, (hx.cell ld nd).trans (h.hd.2 0 (by decide)).1, (hx.cell hb nb).trans c1, (hx.cell hb nb).trans c4, (hx.frozen lc nc).trans (h.hc.2 0 (by decide)).2⟩
 have HO : Hid (W.ownsRow w0.heap.size 39 5 u out.length (wcs out)) := h.own
 obtain ⟨pa, capn, cap, eu⟩ : ∃ a n cap, u = .slice a n cap := by obtain ⟨a, c, e⟩ := own_len h.own; exact ⟨a, _, c, e⟩
 subst eu
 have HW0 : Hid (w0.heap.size ≤ W.heap.size) := h.chg.size
 clear h hl
 go_enter Try.func39, Try.ntmps39
 go_wp2_with fail
 refine wp_region_noPanic ?_
 refine wp_region_until (X := 16) (S := Chg (fun k => (Value.slice pa capn cap).ownBlock = some k) W) (by kernel_rfl) ?_
 have HS : Chg (fun k => (Value.slice pa capn cap).ownBlock = some k) W W.drew := (Chg.refl _ W).drew
 have HE : Hid (Ext W W.drew) := (Ext.refl W).drew
 obtain ⟨y0, hy0⟩ : ∃ y0, W.drew = y0 := ⟨_, rfl⟩
 rw [hy0] at HS HE ⊢
 clear hy0
 refine takeU (i := 0) (v := ?vs0) ?hys0 HS ?rests0
 case hys0 => (intro w hSw; obtain ⟨l1, l2, l3, q1, q2, q3, q4, _⟩ := HC.out _ hSw; go_simp; try with_reducible rfl)
 try simp only [sx]
 refine takeU (i := 1) (v := ?vs1) ?hys1 HS ?rests1
 case hys1 => (intro w hSw; obtain ⟨l1, l2, l3, q1, q2, q3, q4, _⟩ := HC.out _ hSw; go_simp; try with_reducible rfl)
 try simp only [sx]
 refine takeU (i := 2) (v := ?vs2) ?hys2 HS ?rests2
 case hys2 => (intro w hSw; obtain ⟨l1, l2, l3, q1, q2, q3, q4, _⟩ := HC.out _ hSw; go_simp; try with_reducible rfl)
 try simp only [sx]
 refine takeU (i := 3) (v := ?vs3) ?hys3 HS ?rests3
 case hys3 => (intro w hSw; obtain ⟨l1, l2, l3, q1, q2, q3, q4, _⟩ := HC.out _ hSw; go_simp; try with_reducible rfl)
 try simp only [sx]
 refine takeU (i := 4) (v := ?vs4) ?hys4 HS ?rests4
 case hys4 => (intro w hSw; obtain ⟨l1, l2, l3, q1, q2, q3, q4, _⟩ := HC.out _ hSw; go_simp; try with_reducible rfl)
 try simp only [sx]
 refine takeU (i := 5) (v := ?vs5) ?hys5 HS ?rests5
 case hys5 => (intro w hSw; obtain ⟨l1, l2, l3, q1, q2, q3, q4, _⟩ := HC.out _ hSw; go_simp; try with_reducible rfl)
 try simp only [sx]
 refine takeU (i := 6) (v := ?vs6) ?hys6 HS ?rests6
 case hys6 => (intro w hSw; obtain ⟨l1, l2, l3, q1, q2, q3, q4, _⟩ := HC.out _ hSw; go_simp; try with_reducible rfl)
 try simp only [sx]
 refine takeU (i := 7) (v := ?vs7) ?hys7 HS ?rests7
 case hys7 => (intro w hSw; obtain ⟨l1, l2, l3, q1, q2, q3, q4, _⟩ := HC.out _ hSw; go_simp; try with_reducible rfl)
 try simp only [sx]
 refine takeU (i := 8) (v := ?vs8) ?hys8 HS ?rests8
 case hys8 => (intro w hSw; obtain ⟨l1, l2, l3, q1, q2, q3, q4, _⟩ := HC.out _ hSw; go_simp; try with_reducible rfl)
 try simp only [sx]
 refine takeU (i := 9) (v := ?vs9) ?hys9 HS ?rests9
 case hys9 => (intro w hSw; obtain ⟨l1, l2, l3, q1, q2, q3, q4, _⟩ := HC.out _ hSw; go_simp; try with_reducible rfl)
 try simp only [sx]
 refine takeU (i := 10) (v := ?vs10) ?hys10 HS ?rests10
 case hys10 => (intro w hSw; obtain ⟨l1, l2, l3, q1, q2, q3, q4, _⟩ := HC.out _ hSw; go_simp; try with_reducible rfl)
 try simp only [sx]
 refine takeU (i := 11) (v := ?vs11) ?hys11 HS ?rests11
 case hys11 => (intro w hSw; obtain ⟨l1, l2, l3, q1, q2, q3, q4, _⟩ := HC.out _ hSw; go_simp; try with_reducible rfl)
 try simp only [sx]
 refine until_one (i := 12) (by kernel_rfl) (by kernel_rfl) rfl rfl (fun K hK => ?_)
 go_simp
 refine (clone_any B (by omega) _).mono ?_
 rintro e y1 ⟨rfl, HX⟩
 have HS1 := HS.thenExt HX
 go_simp
 refine hK.out _ _ HS1 ?_
 clear hK K
 try simp only [sx]
 have HE1 : Hid (Ext W y1) := HE.out.trans HX
 clear HX HE
 refine takeU (i := 13) (v := ?vs13) ?hys13 HS1 ?rests13
 case hys13 => (intro w hSw; obtain ⟨l1, l2, l3, q1, q2, q3, q4, _⟩ := HC.out _ hSw; go_simp; try with_reducible rfl)
 try simp only [sx]
 refine until_one (i := 14) (by kernel_rfl) (by kernel_rfl) rfl rfl (fun K hK => ?_)
 go_simp
 have HS2 := HS1.alloc (.cells #[.int .i64 k, .int .i64 p.me, .int .i64 s.rd, .int .i64 v, .string B] 39)
 have HE2 : Hid (Ext W (y1.alloc (.cells #[.int .i64 k, .int .i64 p.me, .int .i64 s.rd, .int .i64 v, .string B] 39))) := HE1.out.alloc _
 have HU : Hid (SlV (y1.alloc (.cells #[.int .i64 k, .int .i64 p.me, .int .i64 s.rd, .int .i64 v, .string B] 39)) (.slice (some ⟨y1.heap.size, 0, none⟩) 1 1) 1 [.int .i64 k, .int .i64 p.me, .int .i64 s.rd, .int .i64 v, .string B]) := slv_new y1 _ 39 1 1 rfl
 generalize y1.alloc (.cells #[.int .i64 k, .int .i64 p.me, .int .i64 s.rd, .int .i64 v, .string B] 39) = y2 at *
 try go_simp
 refine hK.out _ _ HS2 ?_
 clear hK K
 try simp only [sx]
 refine until_one (i := 15) (by kernel_rfl) (by kernel_rfl) rfl rfl (fun K hK => ?_)
 refine app22 y2 (.tmp 8) (.tmp 22) rfl w0.heap.size (.slice pa capn cap) out.length (wcs out) rfl (own_ext HO.out HE2.out) _ 1 [.int .i64 k, .int .i64 p.me, .int .i64 s.rd, .int .i64 v, .string B] rfl HU.out rfl (one5 _ _ _ _ _) (by have := HL.out; omega) (Nat.le_trans HW0.out HE2.out.size) ?_
 intro u' y3 hown hgr hu'
 have HS3 : Chg (fun k => (Value.slice pa capn cap).ownBlock = some k) W y3 := HS2.grown hgr (fun k q => .inl q)
 have HF : Hid (RX w0 F0 b c d p s (out ++ [⟨k, p.me, s.rd, v, B⟩]) vp G u' (y3.setCell ⟨c, 0, none⟩ u')) := HR.out.said ⟨k, p.me, s.rd, v, B⟩ HS3 hown (by
  rcases hu' with q | q
  ·exact .inl q
  ·exact .inr ⟨_, q, HE2.out.size⟩)
 obtain ⟨pa', n', cap', eu⟩ : ∃ a n cap, u' = .slice a n cap := by obtain ⟨a, c, e⟩ := own_len hown; exact ⟨a, _, c, e⟩
 subst eu
 obtain ⟨l1, _, _, q1, _, _, _, fz⟩ := HC.out _ HS3
 refine hK.out _ _ HS3 ?_
 clear hK K
 try simp only [sx]
 refine until_last (by kernel_rfl) (by kernel_rfl) rfl rfl (fun K hK => ?_)
 go_simp
 refine hK.out _ _ (NoPanic.normal ?_)
 clear hK K
 try simp only [sx]
 go_wp2
 refine bodyPost_end (v := .tuple #[]) (by simp [results, Try.results39, go_sem]) rfl ⟨rfl, _, _, _, HF.out⟩
end Go.Proofs.Ytmanacbdldfmfaa

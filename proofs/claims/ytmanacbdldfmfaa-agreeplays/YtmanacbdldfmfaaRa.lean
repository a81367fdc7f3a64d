/-
 The document's part: is, vote, begin, called.
-/
import Derived.Test.YtmanacbdldfmfaaAl
namespace Go.Proofs.Ytmanacbdldfmfaa
open Go.RowKit
set_option maxRecDepth 10000
def fiveA (s : Ag) : Bool := decide (0 ≤ s.rd ∧ s.vr = s.rd)
/-- The document's part. -/
abbrev av (p : Pm) (s : Ag) (a1 : Option Addr) (n1 c1 : Nat) (a2 : Option Addr) (n2 c2 : Nat) : Value := .agg #[.int .i64 p.me, .int .i64 p.ht, .string p.own, .int .i64 s.rd, .int .i64 s.st, .string s.lk, .int .i64 s.lr, .string s.vv, .int .i64 s.vr, .slice a1 n1 c1, .int .i64 (p.n : Int), .int .i64 (p.t : Int), .slice a2 n2 c2, .bool (fiveA s), .bool s.dn, .string s.dc]
theorem size34 : (Try.prog.info? 34).map (·.size) = some 16 := by kernel_rfl
theorem und34 : ∃ fs, Try.prog.underlying 34 = some (.struct fs) := ⟨_, Try.underlying34⟩
/-- What lies in two blocks of the document's: the part, and the result. -/
structure R2 (w : World) (g0 : Nat) (cs : Array Value) (g1 : Nat) (wx : World) : Prop where
 ext : Ext w wx
 b0 : wx.heap[g0]? = some (.cells cs 34 (0, 0))
 b1 : ∃ z, z.size = 16 ∧ wx.heap[g1]? = some (.cells z 34 (0, 0))
 l0 : w.heap.size ≤ g0
 l1 : w.heap.size ≤ g1
 ne : g0 ≠ g1
theorem R2.further {w wx wy : World} {g0 g1 : Nat} {cs : Array Value} (h : R2 w g0 cs g1 wx) (hx : Ext wx wy) : R2 w g0 cs g1 wy := by
 obtain ⟨z, hz, hb⟩ := h.b1
 exact ⟨h.ext.trans hx, (Below.block hx g0 (Array.getElem?_eq_some_iff.1 h.b0).1).trans h.b0, ⟨z, hz, (Below.block hx g1 (Array.getElem?_eq_some_iff.1 hb).1).trans hb⟩, h.l0, h.l1, h.ne⟩
/-- Two new blocks. -/
theorem R2.new (w : World) (cs z : Array Value) (hz : z.size = 16) : R2 w w.heap.size cs (w.heap.size + 1) ((w.alloc (.cells cs 34)).alloc (.cells z 34)) := by
 refine ⟨((Ext.refl w).alloc _).alloc _, heap_old (heap_alloc_new w _), ⟨z, hz, ?_⟩, Nat.le_refl _, by omega, by omega⟩
 have := heap_alloc_new (w.alloc (.cells cs 34)) (.cells z 34)
 rw [show (w.alloc (.cells cs 34)).heap.size = w.heap.size + 1 from by simp] at this
 exact this
/-- The result is set. -/
theorem R2.set {w wx : World} {g0 g1 : Nat} {cs cs' : Array Value} (h : R2 w g0 cs g1 wx) (hs : cs'.size = 16) : R2 w g0 cs g1 (wx.setRow g1 cs') ∧ (wx.setRow g1 cs').heap[g1]? = some (.cells cs' 34 (0, 0)) := by
 obtain ⟨z, hz, hb⟩ := h.b1
 have q := setRow_heap wx g1 _ cs' 34 (0, 0) hb
 exact ⟨⟨h.ext.row h.l1 cs', (setRow_other wx g1 g0 cs' h.ne).trans h.b0, ⟨cs', hs, q⟩, h.l0, h.l1, h.ne⟩, q⟩
theorem R2.cell {w wx : World} {g0 g1 : Nat} {cs : Array Value} (h : R2 w g0 cs g1 wx) {j : Nat} {v : Value} (hv : cs[j]? = some v) : wx.cell? ⟨g0, j, none⟩ = some v ∧ g0 < wx.heap.size := ⟨by rw [cell_of_row _ _ _ _ _ _ h.b0]; exact hv, (Array.getElem?_eq_some_iff.1 h.b0).1⟩
theorem ld34 {o : Oper} {a : Act} {w : World} (x : Operand) (ho : o.op = .load 34 x) (g : Nat) (hx : a.eval x = .pointer (some ⟨g, 0, none⟩)) (cs : Array Value) (hg : w.heap[g]? = some (.cells cs 34 (0, 0))) (hs : cs.size = 16) : (execOp a.eval o).run Try.prog w = .ok (.value (.agg cs)) w := exec_load9 34 x ho g hx 34 cs (0, 0) _ hg Try.underlying34 rfl (by rw [hs]; exact size34)
theorem ret_two {fn : Func} {p q : Tmp} (h : fn.results = #[.cell p 34, .tmp q]) (tmps : Array Value) (w : World) (g : Nat) (t : TypeId) (cs : Array Value) (fr : Nat × Nat)
  (hp : tmps.getD p undef = .pointer (some ⟨g, 0, none⟩)) (hg : w.heap[g]? = some (.cells cs t fr)) (hs : cs.size = 16) :
  (results fn tmps).run Try.prog w = .ok (.tuple #[.agg cs, tmps.getD q undef]) w := by
 have hp' : tmps[p]?.getD undef = .pointer (some ⟨g, 0, none⟩) := by simpa using hp
 have hl := run_loadVar_row (P := Try.prog) w g t 34 cs fr _ hg Try.underlying34 rfl (by rw [hs]; exact size34)
 simp [results, h, hp', asAddr, hl]
theorem ret_three {fn : Func} {p q r : Tmp} (h : fn.results = #[.cell p 34, .tmp q, .tmp r]) (tmps : Array Value) (w : World) (g : Nat) (t : TypeId) (cs : Array Value) (fr : Nat × Nat)
  (hp : tmps.getD p undef = .pointer (some ⟨g, 0, none⟩)) (hg : w.heap[g]? = some (.cells cs t fr)) (hs : cs.size = 16) :
  (results fn tmps).run Try.prog w = .ok (.tuple #[.agg cs, tmps.getD q undef, tmps.getD r undef]) w := by
 have hp' : tmps[p]?.getD undef = .pointer (some ⟨g, 0, none⟩) := by simpa using hp
 have hl := run_loadVar_row (P := Try.prog) w g t 34 cs fr _ hg Try.underlying34 rfl (by rw [hs]; exact size34)
 simp [results, h, hp', asAddr, hl]
set_option maxHeartbeats 2000000 in
theorem ris_any (p : Pm) (s : Ag) (hp : okP p) (hi : InvA p s) (a1 : Option Addr) (n1 c1 : Nat) (a2 : Option Addr) (c2 : Nat) (k r : Int) (B : ByteArray) (hn : s.vs.length ≤ 1000) (w : World) (hL : WsIs w (.slice a2 s.vs.length c2) s.vs) :
  Calls Try.prog 51 #[av p s a1 n1 c1 a2 s.vs.length c2, .int .i64 k, .int .i64 r, .string B] w fun e w' => e = .returned (.bool (isA p s.vs k r B)) ∧ Ext w w' := by
 have HM : Hid (∀ wx, Ext w wx → Calls Try.prog 58 #[rV p.n p.t (.slice a2 s.vs.length c2), .int .i64 k, .int .i64 r] wx fun e w' => MostR p.n p.t s.vs k r wx e w') := fun wx hx => rmost_any hp.1 a2 c2 s.vs k r hn wx (hL.ext hx)
 have HI : Hid (InvV p.n s.vs) := hi.vs
 have HE : Hid (Ext w w) := Ext.refl w
 clear hL hp hi hn
 go_enter Try.func51, Try.ntmps51
 go_wp2_with fail
 refine (HM.out _ (HE.out.alloc _)).mono ?_
 rintro e w1 ⟨z, c, rfl, hm, HX⟩
 have Hm : Hid (isA p s.vs k r B = (c && decide (z = B))) := is_of HI.out hm
 have HX1 : Hid (Ext w w1) := (HE.out.alloc _).trans HX
 clear hm HX HM
 cases c with
 | true =>
  go_wp2
  go_ret
  exact ⟨by rw [Hm.out, Bool.true_and, ← beq_txt]; rfl, HX1.out⟩
 | false =>
  go_wp2
  go_ret
  exact ⟨by rw [Hm.out]; rfl, HX1.out⟩
/-- What is said: a row of its own. -/
theorem own_one (w : World) (m : Vt) : (w.alloc (.cells #[.int .i64 m.kd, .int .i64 m.fr, .int .i64 m.rd, .int .i64 m.va, .string m.vl] 39)).ownsRow w.heap.size 39 5 (.slice (some ⟨w.heap.size, 0, none⟩) 1 1) [m].length (wcs [m]) :=
 ⟨rfl, .inr ⟨w.heap.size, 1, _, rfl, Nat.le_refl _, heap_alloc_new w _, Nat.le_refl _, by decide, rfl, rfl⟩⟩
/-- A part, and what it says. -/
def SayP (p : Pm) (s' : Ag) (o : List Vt) (a1 : Option Addr) (n1 c1 : Nat) (a2 : Option Addr) (n2 c2 : Nat) (w : World) (e : Ending) (w' : World) : Prop :=
 ∃ a n c, e = .returned (.tuple #[av p s' a1 n1 c1 a2 n2 c2, .slice a n c]) ∧ w'.ownsRow w.heap.size 39 5 (.slice a n c) o.length (wcs o) ∧ Ext w w'
set_option maxHeartbeats 4000000 in
theorem rvote_2 (p : Pm) (s : Ag) (a1 : Option Addr) (n1 c1 : Nat) (a2 : Option Addr) (n2 c2 : Nat) (B : ByteArray) (w : World) :
  Calls Try.prog 48 #[av p s a1 n1 c1 a2 n2 c2, .int .i64 2, .string B] w fun e w' => SayP p (voteA p s 2 B).1 (voteA p s 2 B).2 a1 n1 c1 a2 n2 c2 w e w' := by
 have HR : Hid (R2 w w.heap.size #[.int .i64 p.me, .int .i64 p.ht, .string p.own, .int .i64 s.rd, .int .i64 2, .string s.lk, .int .i64 s.lr, .string s.vv, .int .i64 s.vr, .slice a1 n1 c1, .int .i64 (p.n : Int), .int .i64 (p.t : Int), .slice a2 n2 c2, .bool (fiveA s), .bool s.dn, .string s.dc] (w.heap.size + 1) ((w.alloc (.cells #[.int .i64 p.me, .int .i64 p.ht, .string p.own, .int .i64 s.rd, .int .i64 2, .string s.lk, .int .i64 s.lr, .string s.vv, .int .i64 s.vr, .slice a1 n1 c1, .int .i64 (p.n : Int), .int .i64 (p.t : Int), .slice a2 n2 c2, .bool (fiveA s), .bool s.dn, .string s.dc] 34)).alloc (.cells #[.int .i64 0, .int .i64 0, .string ⟨#[]⟩, .int .i64 0, .int .i64 0, .string ⟨#[]⟩, .int .i64 0, .string ⟨#[]⟩, .int .i64 0, .slice none 0 0, .int .i64 0, .int .i64 0, .slice none 0 0, .bool false, .bool false, .string ⟨#[]⟩] 34))) := R2.new w _ _ rfl
 go_enter Try.func48, Try.ntmps48
 go_wp2_with fail
 obtain ⟨W, hW⟩ : ∃ W, (w.alloc (.cells #[.int .i64 p.me, .int .i64 p.ht, .string p.own, .int .i64 s.rd, .int .i64 2, .string s.lk, .int .i64 s.lr, .string s.vv, .int .i64 s.vr, .slice a1 n1 c1, .int .i64 (p.n : Int), .int .i64 (p.t : Int), .slice a2 n2 c2, .bool (fiveA s), .bool s.dn, .string s.dc] 34)).alloc (.cells #[.int .i64 0, .int .i64 0, .string ⟨#[]⟩, .int .i64 0, .int .i64 0, .string ⟨#[]⟩, .int .i64 0, .string ⟨#[]⟩, .int .i64 0, .slice none 0 0, .int .i64 0, .int .i64 0, .slice none 0 0, .bool false, .bool false, .string ⟨#[]⟩] 34) = W := ⟨_, rfl⟩
 rw [hW] at HR ⊢
 clear hW
 refine wp_region_noPanic ?_
 refine wp_region_held (S := R2 w w.heap.size #[.int .i64 p.me, .int .i64 p.ht, .string p.own, .int .i64 s.rd, .int .i64 2, .string s.lk, .int .i64 s.lr, .string s.vv, .int .i64 s.vr, .slice a1 n1 c1, .int .i64 (p.n : Int), .int .i64 (p.t : Int), .slice a2 n2 c2, .bool (fiveA s), .bool s.dn, .string s.dc] (w.heap.size + 1)) (by kernel_rfl) ?_
 rw [show ({ W with drawn := W.drawn + 1 } : World) = W.drew from rfl]
 have HS := HR.out.further (Ext.refl W).drew
 generalize W.drew = y0 at *
 refine takeH (i := 0) (v := ?vv0) ?hyv0 HS ?restv0
 case hyv0 => (intro wx hSx; refine ld34 (.tmp 3) ?_ w.heap.size ?_ #[.int .i64 p.me, .int .i64 p.ht, .string p.own, .int .i64 s.rd, .int .i64 2, .string s.lk, .int .i64 s.lr, .string s.vv, .int .i64 s.vr, .slice a1 n1 c1, .int .i64 (p.n : Int), .int .i64 (p.t : Int), .slice a2 n2 c2, .bool (fiveA s), .bool s.dn, .string s.dc] hSx.b0 rfl <;> rfl)
 try simp only [sx]
 refine takeH (i := 1) (v := ?vv1) ?hyv1 HS ?restv1
 case hyv1 => (intro wx hSx; go_simp; try with_reducible rfl)
 try simp only [sx]
 refine takeH (i := 2) (v := ?vv2) ?hyv2 HS ?restv2
 case hyv2 => (intro wx hSx; go_simp; try with_reducible rfl)
 try simp only [sx]
 refine takeH (i := 3) (v := ?vv3) ?hyv3 HS ?restv3
 case hyv3 => (intro wx hSx; have c0 := (hSx.cell (j := 0) rfl).1; have c3 := (hSx.cell (j := 3) rfl).1; have cl := (hSx.cell (j := 0) rfl).2; go_simp; try with_reducible rfl)
 try simp only [sx]
 refine takeH (i := 4) (v := ?vv4) ?hyv4 HS ?restv4
 case hyv4 => (intro wx hSx; go_simp; try with_reducible rfl)
 try simp only [sx]
 refine takeH (i := 5) (v := ?vv5) ?hyv5 HS ?restv5
 case hyv5 => (intro wx hSx; have c0 := (hSx.cell (j := 0) rfl).1; have c3 := (hSx.cell (j := 3) rfl).1; have cl := (hSx.cell (j := 0) rfl).2; go_simp; try with_reducible rfl)
 try simp only [sx]
 refine takeH (i := 6) (v := ?vv6) ?hyv6 HS ?restv6
 case hyv6 => (intro wx hSx; go_simp; try with_reducible rfl)
 try simp only [sx]
 refine takeH (i := 7) (v := ?vv7) ?hyv7 HS ?restv7
 case hyv7 => (intro wx hSx; go_simp; try with_reducible rfl)
 try simp only [sx]
 refine held_two (i := 8) (k := 9) (by kernel_rfl) rfl rfl rfl rfl (fun K hK => ?_) (fun K hK => ?_)
 ·go_simp
  have HByb : R2 w w.heap.size #[.int .i64 p.me, .int .i64 p.ht, .string p.own, .int .i64 s.rd, .int .i64 2, .string s.lk, .int .i64 s.lr, .string s.vv, .int .i64 s.vr, .slice a1 n1 c1, .int .i64 (p.n : Int), .int .i64 (p.t : Int), .slice a2 n2 c2, .bool (fiveA s), .bool s.dn, .string s.dc] (w.heap.size + 1) (y0.alloc (.cells #[.int .i64 2, .int .i64 p.me, .int .i64 s.rd, .int .i64 0, .string B] 39)) := HS.further ((Ext.refl y0).alloc _)
  have HO : Hid ((y0.alloc (.cells #[.int .i64 2, .int .i64 p.me, .int .i64 s.rd, .int .i64 0, .string B] 39)).ownsRow w.heap.size 39 5 (.slice (some ⟨y0.heap.size, 0, none⟩) 1 1) 1 (wcs [⟨2, p.me, s.rd, 0, B⟩])) := own_base (own_one y0 ⟨2, p.me, s.rd, 0, B⟩) HS.ext.size
  have HL : Hid ((w.heap.size + 1) < y0.heap.size) := by obtain ⟨z, _, q⟩ := HS.b1; exact (Array.getElem?_eq_some_iff.1 q).1
  obtain ⟨yb, hyb⟩ : ∃ y, y0.alloc (.cells #[.int .i64 2, .int .i64 p.me, .int .i64 s.rd, .int .i64 0, .string B] 39) = y := ⟨_, rfl⟩
  rw [hyb] at HByb HO ⊢
  clear hyb
  try go_simp
  refine hK.out _ _ ⟨HByb, ?_⟩
  clear hK K
  try simp only [sx]
  refine held_one (i := 9) (by kernel_rfl) rfl rfl (fun K hK => ?_)
  obtain ⟨z, hz, hzb⟩ := HByb.b1
  refine wp_store_row 34 (.tmp 6) (.tmp 12) rfl (w.heap.size + 1) #[.int .i64 p.me, .int .i64 p.ht, .string p.own, .int .i64 s.rd, .int .i64 2, .string s.lk, .int .i64 s.lr, .string s.vv, .int .i64 s.vr, .slice a1 n1 c1, .int .i64 (p.n : Int), .int .i64 (p.t : Int), .slice a2 n2 c2, .bool (fiveA s), .bool s.dn, .string s.dc] rfl rfl 34 z hzb size34 hz (by kernel_rfl) ?_
  obtain ⟨HTysb, hGq⟩ := HByb.set (cs' := #[.int .i64 p.me, .int .i64 p.ht, .string p.own, .int .i64 s.rd, .int .i64 2, .string s.lk, .int .i64 s.lr, .string s.vv, .int .i64 s.vr, .slice a1 n1 c1, .int .i64 (p.n : Int), .int .i64 (p.t : Int), .slice a2 n2 c2, .bool (fiveA s), .bool s.dn, .string s.dc]) rfl
  have HG : Hid ((yb.setRow (w.heap.size + 1) #[.int .i64 p.me, .int .i64 p.ht, .string p.own, .int .i64 s.rd, .int .i64 2, .string s.lk, .int .i64 s.lr, .string s.vv, .int .i64 s.vr, .slice a1 n1 c1, .int .i64 (p.n : Int), .int .i64 (p.t : Int), .slice a2 n2 c2, .bool (fiveA s), .bool s.dn, .string s.dc]).heap[(w.heap.size + 1)]? = some (.cells #[.int .i64 p.me, .int .i64 p.ht, .string p.own, .int .i64 s.rd, .int .i64 2, .string s.lk, .int .i64 s.lr, .string s.vv, .int .i64 s.vr, .slice a1 n1 c1, .int .i64 (p.n : Int), .int .i64 (p.t : Int), .slice a2 n2 c2, .bool (fiveA s), .bool s.dn, .string s.dc] 34 (0, 0))) := hGq
  have HO2 : Hid ((yb.setRow (w.heap.size + 1) #[.int .i64 p.me, .int .i64 p.ht, .string p.own, .int .i64 s.rd, .int .i64 2, .string s.lk, .int .i64 s.lr, .string s.vv, .int .i64 s.vr, .slice a1 n1 c1, .int .i64 (p.n : Int), .int .i64 (p.t : Int), .slice a2 n2 c2, .bool (fiveA s), .bool s.dn, .string s.dc]).ownsRow w.heap.size 39 5 (.slice (some ⟨y0.heap.size, 0, none⟩) 1 1) 1 (wcs [⟨2, p.me, s.rd, 0, B⟩])) := own_keep HO.out (fun k q => setRow_other _ _ _ _ (fun e => by injection q with q; have := HL.out; have q2 : y0.heap.size = k := q; omega))
  clear hz hzb hGq
  generalize yb.setRow (w.heap.size + 1) #[.int .i64 p.me, .int .i64 p.ht, .string p.own, .int .i64 s.rd, .int .i64 2, .string s.lk, .int .i64 s.lr, .string s.vv, .int .i64 s.vr, .slice a1 n1 c1, .int .i64 (p.n : Int), .int .i64 (p.t : Int), .slice a2 n2 c2, .bool (fiveA s), .bool s.dn, .string s.dc] = ysb at *
  skip
  refine hK.out _ _ ⟨HTysb, ?_⟩
  clear hK K
  try simp only [sx]
  refine takeH (i := 10) (v := ?vv10n1) ?hyv10n1 HTysb ?restv10n1
  case hyv10n1 => (intro wx hSx; go_simp; try with_reducible rfl)
  try simp only [sx]
  refine wpAnyH_done (by kernel_rfl) ?_ _
  refine NoPanic.normal ?_
  go_wp2_with fail
  refine bodyPost_ret (ret_two Try.results48 _ _ (w.heap.size + 1) 34 #[.int .i64 p.me, .int .i64 p.ht, .string p.own, .int .i64 s.rd, .int .i64 2, .string s.lk, .int .i64 s.lr, .string s.vv, .int .i64 s.vr, .slice a1 n1 c1, .int .i64 (p.n : Int), .int .i64 (p.t : Int), .slice a2 n2 c2, .bool (fiveA s), .bool s.dn, .string s.dc] (0, 0) rfl HG.out rfl) rfl ⟨_, _, _, rfl, HO2.out, HTysb.ext⟩
 ·obtain ⟨z, hz, hzb⟩ := HS.b1
  refine wp_store_row 34 (.tmp 6) (.tmp 12) rfl (w.heap.size + 1) #[.int .i64 p.me, .int .i64 p.ht, .string p.own, .int .i64 s.rd, .int .i64 2, .string s.lk, .int .i64 s.lr, .string s.vv, .int .i64 s.vr, .slice a1 n1 c1, .int .i64 (p.n : Int), .int .i64 (p.t : Int), .slice a2 n2 c2, .bool (fiveA s), .bool s.dn, .string s.dc] rfl rfl 34 z hzb size34 hz (by kernel_rfl) ?_
  obtain ⟨HTys, hGq⟩ := HS.set (cs' := #[.int .i64 p.me, .int .i64 p.ht, .string p.own, .int .i64 s.rd, .int .i64 2, .string s.lk, .int .i64 s.lr, .string s.vv, .int .i64 s.vr, .slice a1 n1 c1, .int .i64 (p.n : Int), .int .i64 (p.t : Int), .slice a2 n2 c2, .bool (fiveA s), .bool s.dn, .string s.dc]) rfl
  have HG : Hid ((y0.setRow (w.heap.size + 1) #[.int .i64 p.me, .int .i64 p.ht, .string p.own, .int .i64 s.rd, .int .i64 2, .string s.lk, .int .i64 s.lr, .string s.vv, .int .i64 s.vr, .slice a1 n1 c1, .int .i64 (p.n : Int), .int .i64 (p.t : Int), .slice a2 n2 c2, .bool (fiveA s), .bool s.dn, .string s.dc]).heap[(w.heap.size + 1)]? = some (.cells #[.int .i64 p.me, .int .i64 p.ht, .string p.own, .int .i64 s.rd, .int .i64 2, .string s.lk, .int .i64 s.lr, .string s.vv, .int .i64 s.vr, .slice a1 n1 c1, .int .i64 (p.n : Int), .int .i64 (p.t : Int), .slice a2 n2 c2, .bool (fiveA s), .bool s.dn, .string s.dc] 34 (0, 0))) := hGq
  clear hz hzb hGq
  generalize y0.setRow (w.heap.size + 1) #[.int .i64 p.me, .int .i64 p.ht, .string p.own, .int .i64 s.rd, .int .i64 2, .string s.lk, .int .i64 s.lr, .string s.vv, .int .i64 s.vr, .slice a1 n1 c1, .int .i64 (p.n : Int), .int .i64 (p.t : Int), .slice a2 n2 c2, .bool (fiveA s), .bool s.dn, .string s.dc] = ys at *
  skip
  refine hK.out _ _ ⟨HTys, ?_⟩
  clear hK K
  try simp only [sx]
  refine held_one (i := 8) (by kernel_rfl) rfl rfl (fun K hK => ?_)
  go_simp
  have HBybs : R2 w w.heap.size #[.int .i64 p.me, .int .i64 p.ht, .string p.own, .int .i64 s.rd, .int .i64 2, .string s.lk, .int .i64 s.lr, .string s.vv, .int .i64 s.vr, .slice a1 n1 c1, .int .i64 (p.n : Int), .int .i64 (p.t : Int), .slice a2 n2 c2, .bool (fiveA s), .bool s.dn, .string s.dc] (w.heap.size + 1) (ys.alloc (.cells #[.int .i64 2, .int .i64 p.me, .int .i64 s.rd, .int .i64 0, .string B] 39)) := HTys.further ((Ext.refl ys).alloc _)
  have HO : Hid ((ys.alloc (.cells #[.int .i64 2, .int .i64 p.me, .int .i64 s.rd, .int .i64 0, .string B] 39)).ownsRow w.heap.size 39 5 (.slice (some ⟨ys.heap.size, 0, none⟩) 1 1) 1 (wcs [⟨2, p.me, s.rd, 0, B⟩])) := own_base (own_one ys ⟨2, p.me, s.rd, 0, B⟩) HTys.ext.size
  have HL : Hid ((w.heap.size + 1) < ys.heap.size) := by obtain ⟨z, _, q⟩ := HTys.b1; exact (Array.getElem?_eq_some_iff.1 q).1
  have HG2 : Hid ((ys.alloc (.cells #[.int .i64 2, .int .i64 p.me, .int .i64 s.rd, .int .i64 0, .string B] 39)).heap[(w.heap.size + 1)]? = some (.cells #[.int .i64 p.me, .int .i64 p.ht, .string p.own, .int .i64 s.rd, .int .i64 2, .string s.lk, .int .i64 s.lr, .string s.vv, .int .i64 s.vr, .slice a1 n1 c1, .int .i64 (p.n : Int), .int .i64 (p.t : Int), .slice a2 n2 c2, .bool (fiveA s), .bool s.dn, .string s.dc] 34 (0, 0))) := heap_old HG.out
  obtain ⟨ybs, hybs⟩ : ∃ y, ys.alloc (.cells #[.int .i64 2, .int .i64 p.me, .int .i64 s.rd, .int .i64 0, .string B] 39) = y := ⟨_, rfl⟩
  rw [hybs] at HBybs HO HG2 ⊢
  clear hybs
  try go_simp
  refine hK.out _ _ ⟨HBybs, ?_⟩
  clear hK K
  try simp only [sx]
  refine takeH (i := 10) (v := ?vv10n2) ?hyv10n2 HBybs ?restv10n2
  case hyv10n2 => (intro wx hSx; go_simp; try with_reducible rfl)
  try simp only [sx]
  refine wpAnyH_done (by kernel_rfl) ?_ _
  refine NoPanic.normal ?_
  go_wp2_with fail
  refine bodyPost_ret (ret_two Try.results48 _ _ (w.heap.size + 1) 34 #[.int .i64 p.me, .int .i64 p.ht, .string p.own, .int .i64 s.rd, .int .i64 2, .string s.lk, .int .i64 s.lr, .string s.vv, .int .i64 s.vr, .slice a1 n1 c1, .int .i64 (p.n : Int), .int .i64 (p.t : Int), .slice a2 n2 c2, .bool (fiveA s), .bool s.dn, .string s.dc] (0, 0) rfl HG2.out rfl) rfl ⟨_, _, _, rfl, HO.out, HBybs.ext⟩
set_option maxHeartbeats 4000000 in
theorem rvote_3 (p : Pm) (s : Ag) (a1 : Option Addr) (n1 c1 : Nat) (a2 : Option Addr) (n2 c2 : Nat) (B : ByteArray) (w : World) :
  Calls Try.prog 48 #[av p s a1 n1 c1 a2 n2 c2, .int .i64 3, .string B] w fun e w' => SayP p (voteA p s 3 B).1 (voteA p s 3 B).2 a1 n1 c1 a2 n2 c2 w e w' := by
 have HR : Hid (R2 w w.heap.size #[.int .i64 p.me, .int .i64 p.ht, .string p.own, .int .i64 s.rd, .int .i64 3, .string s.lk, .int .i64 s.lr, .string s.vv, .int .i64 s.vr, .slice a1 n1 c1, .int .i64 (p.n : Int), .int .i64 (p.t : Int), .slice a2 n2 c2, .bool (fiveA s), .bool s.dn, .string s.dc] (w.heap.size + 1) ((w.alloc (.cells #[.int .i64 p.me, .int .i64 p.ht, .string p.own, .int .i64 s.rd, .int .i64 3, .string s.lk, .int .i64 s.lr, .string s.vv, .int .i64 s.vr, .slice a1 n1 c1, .int .i64 (p.n : Int), .int .i64 (p.t : Int), .slice a2 n2 c2, .bool (fiveA s), .bool s.dn, .string s.dc] 34)).alloc (.cells #[.int .i64 0, .int .i64 0, .string ⟨#[]⟩, .int .i64 0, .int .i64 0, .string ⟨#[]⟩, .int .i64 0, .string ⟨#[]⟩, .int .i64 0, .slice none 0 0, .int .i64 0, .int .i64 0, .slice none 0 0, .bool false, .bool false, .string ⟨#[]⟩] 34))) := R2.new w _ _ rfl
 go_enter Try.func48, Try.ntmps48
 go_wp2_with fail
 obtain ⟨W, hW⟩ : ∃ W, (w.alloc (.cells #[.int .i64 p.me, .int .i64 p.ht, .string p.own, .int .i64 s.rd, .int .i64 3, .string s.lk, .int .i64 s.lr, .string s.vv, .int .i64 s.vr, .slice a1 n1 c1, .int .i64 (p.n : Int), .int .i64 (p.t : Int), .slice a2 n2 c2, .bool (fiveA s), .bool s.dn, .string s.dc] 34)).alloc (.cells #[.int .i64 0, .int .i64 0, .string ⟨#[]⟩, .int .i64 0, .int .i64 0, .string ⟨#[]⟩, .int .i64 0, .string ⟨#[]⟩, .int .i64 0, .slice none 0 0, .int .i64 0, .int .i64 0, .slice none 0 0, .bool false, .bool false, .string ⟨#[]⟩] 34) = W := ⟨_, rfl⟩
 rw [hW] at HR ⊢
 clear hW
 refine wp_region_noPanic ?_
 refine wp_region_held (S := R2 w w.heap.size #[.int .i64 p.me, .int .i64 p.ht, .string p.own, .int .i64 s.rd, .int .i64 3, .string s.lk, .int .i64 s.lr, .string s.vv, .int .i64 s.vr, .slice a1 n1 c1, .int .i64 (p.n : Int), .int .i64 (p.t : Int), .slice a2 n2 c2, .bool (fiveA s), .bool s.dn, .string s.dc] (w.heap.size + 1)) (by kernel_rfl) ?_
 rw [show ({ W with drawn := W.drawn + 1 } : World) = W.drew from rfl]
 have HS := HR.out.further (Ext.refl W).drew
 generalize W.drew = y0 at *
 refine takeH (i := 0) (v := ?vv0) ?hyv0 HS ?restv0
 case hyv0 => (intro wx hSx; refine ld34 (.tmp 3) ?_ w.heap.size ?_ #[.int .i64 p.me, .int .i64 p.ht, .string p.own, .int .i64 s.rd, .int .i64 3, .string s.lk, .int .i64 s.lr, .string s.vv, .int .i64 s.vr, .slice a1 n1 c1, .int .i64 (p.n : Int), .int .i64 (p.t : Int), .slice a2 n2 c2, .bool (fiveA s), .bool s.dn, .string s.dc] hSx.b0 rfl <;> rfl)
 try simp only [sx]
 refine takeH (i := 1) (v := ?vv1) ?hyv1 HS ?restv1
 case hyv1 => (intro wx hSx; go_simp; try with_reducible rfl)
 try simp only [sx]
 refine takeH (i := 2) (v := ?vv2) ?hyv2 HS ?restv2
 case hyv2 => (intro wx hSx; go_simp; try with_reducible rfl)
 try simp only [sx]
 refine takeH (i := 3) (v := ?vv3) ?hyv3 HS ?restv3
 case hyv3 => (intro wx hSx; have c0 := (hSx.cell (j := 0) rfl).1; have c3 := (hSx.cell (j := 3) rfl).1; have cl := (hSx.cell (j := 0) rfl).2; go_simp; try with_reducible rfl)
 try simp only [sx]
 refine takeH (i := 4) (v := ?vv4) ?hyv4 HS ?restv4
 case hyv4 => (intro wx hSx; go_simp; try with_reducible rfl)
 try simp only [sx]
 refine takeH (i := 5) (v := ?vv5) ?hyv5 HS ?restv5
 case hyv5 => (intro wx hSx; have c0 := (hSx.cell (j := 0) rfl).1; have c3 := (hSx.cell (j := 3) rfl).1; have cl := (hSx.cell (j := 0) rfl).2; go_simp; try with_reducible rfl)
 try simp only [sx]
 refine takeH (i := 6) (v := ?vv6) ?hyv6 HS ?restv6
 case hyv6 => (intro wx hSx; go_simp; try with_reducible rfl)
 try simp only [sx]
 refine takeH (i := 7) (v := ?vv7) ?hyv7 HS ?restv7
 case hyv7 => (intro wx hSx; go_simp; try with_reducible rfl)
 try simp only [sx]
 refine held_two (i := 8) (k := 9) (by kernel_rfl) rfl rfl rfl rfl (fun K hK => ?_) (fun K hK => ?_)
 ·go_simp
  have HByb : R2 w w.heap.size #[.int .i64 p.me, .int .i64 p.ht, .string p.own, .int .i64 s.rd, .int .i64 3, .string s.lk, .int .i64 s.lr, .string s.vv, .int .i64 s.vr, .slice a1 n1 c1, .int .i64 (p.n : Int), .int .i64 (p.t : Int), .slice a2 n2 c2, .bool (fiveA s), .bool s.dn, .string s.dc] (w.heap.size + 1) (y0.alloc (.cells #[.int .i64 3, .int .i64 p.me, .int .i64 s.rd, .int .i64 0, .string B] 39)) := HS.further ((Ext.refl y0).alloc _)
  have HO : Hid ((y0.alloc (.cells #[.int .i64 3, .int .i64 p.me, .int .i64 s.rd, .int .i64 0, .string B] 39)).ownsRow w.heap.size 39 5 (.slice (some ⟨y0.heap.size, 0, none⟩) 1 1) 1 (wcs [⟨3, p.me, s.rd, 0, B⟩])) := own_base (own_one y0 ⟨3, p.me, s.rd, 0, B⟩) HS.ext.size
  have HL : Hid ((w.heap.size + 1) < y0.heap.size) := by obtain ⟨z, _, q⟩ := HS.b1; exact (Array.getElem?_eq_some_iff.1 q).1
  obtain ⟨yb, hyb⟩ : ∃ y, y0.alloc (.cells #[.int .i64 3, .int .i64 p.me, .int .i64 s.rd, .int .i64 0, .string B] 39) = y := ⟨_, rfl⟩
  rw [hyb] at HByb HO ⊢
  clear hyb
  try go_simp
  refine hK.out _ _ ⟨HByb, ?_⟩
  clear hK K
  try simp only [sx]
  refine held_one (i := 9) (by kernel_rfl) rfl rfl (fun K hK => ?_)
  obtain ⟨z, hz, hzb⟩ := HByb.b1
  refine wp_store_row 34 (.tmp 6) (.tmp 12) rfl (w.heap.size + 1) #[.int .i64 p.me, .int .i64 p.ht, .string p.own, .int .i64 s.rd, .int .i64 3, .string s.lk, .int .i64 s.lr, .string s.vv, .int .i64 s.vr, .slice a1 n1 c1, .int .i64 (p.n : Int), .int .i64 (p.t : Int), .slice a2 n2 c2, .bool (fiveA s), .bool s.dn, .string s.dc] rfl rfl 34 z hzb size34 hz (by kernel_rfl) ?_
  obtain ⟨HTysb, hGq⟩ := HByb.set (cs' := #[.int .i64 p.me, .int .i64 p.ht, .string p.own, .int .i64 s.rd, .int .i64 3, .string s.lk, .int .i64 s.lr, .string s.vv, .int .i64 s.vr, .slice a1 n1 c1, .int .i64 (p.n : Int), .int .i64 (p.t : Int), .slice a2 n2 c2, .bool (fiveA s), .bool s.dn, .string s.dc]) rfl
  have HG : Hid ((yb.setRow (w.heap.size + 1) #[.int .i64 p.me, .int .i64 p.ht, .string p.own, .int .i64 s.rd, .int .i64 3, .string s.lk, .int .i64 s.lr, .string s.vv, .int .i64 s.vr, .slice a1 n1 c1, .int .i64 (p.n : Int), .int .i64 (p.t : Int), .slice a2 n2 c2, .bool (fiveA s), .bool s.dn, .string s.dc]).heap[(w.heap.size + 1)]? = some (.cells #[.int .i64 p.me, .int .i64 p.ht, .string p.own, .int .i64 s.rd, .int .i64 3, .string s.lk, .int .i64 s.lr, .string s.vv, .int .i64 s.vr, .slice a1 n1 c1, .int .i64 (p.n : Int), .int .i64 (p.t : Int), .slice a2 n2 c2, .bool (fiveA s), .bool s.dn, .string s.dc] 34 (0, 0))) := hGq
  have HO2 : Hid ((yb.setRow (w.heap.size + 1) #[.int .i64 p.me, .int .i64 p.ht, .string p.own, .int .i64 s.rd, .int .i64 3, .string s.lk, .int .i64 s.lr, .string s.vv, .int .i64 s.vr, .slice a1 n1 c1, .int .i64 (p.n : Int), .int .i64 (p.t : Int), .slice a2 n2 c2, .bool (fiveA s), .bool s.dn, .string s.dc]).ownsRow w.heap.size 39 5 (.slice (some ⟨y0.heap.size, 0, none⟩) 1 1) 1 (wcs [⟨3, p.me, s.rd, 0, B⟩])) := own_keep HO.out (fun k q => setRow_other _ _ _ _ (fun e => by injection q with q; have := HL.out; have q2 : y0.heap.size = k := q; omega))
  clear hz hzb hGq
  generalize yb.setRow (w.heap.size + 1) #[.int .i64 p.me, .int .i64 p.ht, .string p.own, .int .i64 s.rd, .int .i64 3, .string s.lk, .int .i64 s.lr, .string s.vv, .int .i64 s.vr, .slice a1 n1 c1, .int .i64 (p.n : Int), .int .i64 (p.t : Int), .slice a2 n2 c2, .bool (fiveA s), .bool s.dn, .string s.dc] = ysb at *
  skip
  refine hK.out _ _ ⟨HTysb, ?_⟩
  clear hK K
  try simp only [sx]
  refine takeH (i := 10) (v := ?vv10n1) ?hyv10n1 HTysb ?restv10n1
  case hyv10n1 => (intro wx hSx; go_simp; try with_reducible rfl)
  try simp only [sx]
  refine wpAnyH_done (by kernel_rfl) ?_ _
  refine NoPanic.normal ?_
  go_wp2_with fail
  refine bodyPost_ret (ret_two Try.results48 _ _ (w.heap.size + 1) 34 #[.int .i64 p.me, .int .i64 p.ht, .string p.own, .int .i64 s.rd, .int .i64 3, .string s.lk, .int .i64 s.lr, .string s.vv, .int .i64 s.vr, .slice a1 n1 c1, .int .i64 (p.n : Int), .int .i64 (p.t : Int), .slice a2 n2 c2, .bool (fiveA s), .bool s.dn, .string s.dc] (0, 0) rfl HG.out rfl) rfl ⟨_, _, _, rfl, HO2.out, HTysb.ext⟩
 ·obtain ⟨z, hz, hzb⟩ := HS.b1
  refine wp_store_row 34 (.tmp 6) (.tmp 12) rfl (w.heap.size + 1) #[.int .i64 p.me, .int .i64 p.ht, .string p.own, .int .i64 s.rd, .int .i64 3, .string s.lk, .int .i64 s.lr, .string s.vv, .int .i64 s.vr, .slice a1 n1 c1, .int .i64 (p.n : Int), .int .i64 (p.t : Int), .slice a2 n2 c2, .bool (fiveA s), .bool s.dn, .string s.dc] rfl rfl 34 z hzb size34 hz (by kernel_rfl) ?_
  obtain ⟨HTys, hGq⟩ := HS.set (cs' := #[.int .i64 p.me, .int .i64 p.ht, .string p.own, .int .i64 s.rd, .int .i64 3, .string s.lk, .int .i64 s.lr, .string s.vv, .int .i64 s.vr, .slice a1 n1 c1, .int .i64 (p.n : Int), .int .i64 (p.t : Int), .slice a2 n2 c2, .bool (fiveA s), .bool s.dn, .string s.dc]) rfl
  have HG : Hid ((y0.setRow (w.heap.size + 1) #[.int .i64 p.me, .int .i64 p.ht, .string p.own, .int .i64 s.rd, .int .i64 3, .string s.lk, .int .i64 s.lr, .string s.vv, .int .i64 s.vr, .slice a1 n1 c1, .int .i64 (p.n : Int), .int .i64 (p.t : Int), .slice a2 n2 c2, .bool (fiveA s), .bool s.dn, .string s.dc]).heap[(w.heap.size + 1)]? = some (.cells #[.int .i64 p.me, .int .i64 p.ht, .string p.own, .int .i64 s.rd, .int .i64 3, .string s.lk, .int .i64 s.lr, .string s.vv, .int .i64 s.vr, .slice a1 n1 c1, .int .i64 (p.n : Int), .int .i64 (p.t : Int), .slice a2 n2 c2, .bool (fiveA s), .bool s.dn, .string s.dc] 34 (0, 0))) := hGq
  clear hz hzb hGq
  generalize y0.setRow (w.heap.size + 1) #[.int .i64 p.me, .int .i64 p.ht, .string p.own, .int .i64 s.rd, .int .i64 3, .string s.lk, .int .i64 s.lr, .string s.vv, .int .i64 s.vr, .slice a1 n1 c1, .int .i64 (p.n : Int), .int .i64 (p.t : Int), .slice a2 n2 c2, .bool (fiveA s), .bool s.dn, .string s.dc] = ys at *
  skip
  refine hK.out _ _ ⟨HTys, ?_⟩
  clear hK K
  try simp only [sx]
  refine held_one (i := 8) (by kernel_rfl) rfl rfl (fun K hK => ?_)
  go_simp
  have HBybs : R2 w w.heap.size #[.int .i64 p.me, .int .i64 p.ht, .string p.own, .int .i64 s.rd, .int .i64 3, .string s.lk, .int .i64 s.lr, .string s.vv, .int .i64 s.vr, .slice a1 n1 c1, .int .i64 (p.n : Int), .int .i64 (p.t : Int), .slice a2 n2 c2, .bool (fiveA s), .bool s.dn, .string s.dc] (w.heap.size + 1) (ys.alloc (.cells #[.int .i64 3, .int .i64 p.me, .int .i64 s.rd, .int .i64 0, .string B] 39)) := HTys.further ((Ext.refl ys).alloc _)
  have HO : Hid ((ys.alloc (.cells #[.int .i64 3, .int .i64 p.me, .int .i64 s.rd, .int .i64 0, .string B] 39)).ownsRow w.heap.size 39 5 (.slice (some ⟨ys.heap.size, 0, none⟩) 1 1) 1 (wcs [⟨3, p.me, s.rd, 0, B⟩])) := own_base (own_one ys ⟨3, p.me, s.rd, 0, B⟩) HTys.ext.size
  have HL : Hid ((w.heap.size + 1) < ys.heap.size) := by obtain ⟨z, _, q⟩ := HTys.b1; exact (Array.getElem?_eq_some_iff.1 q).1
  have HG2 : Hid ((ys.alloc (.cells #[.int .i64 3, .int .i64 p.me, .int .i64 s.rd, .int .i64 0, .string B] 39)).heap[(w.heap.size + 1)]? = some (.cells #[.int .i64 p.me, .int .i64 p.ht, .string p.own, .int .i64 s.rd, .int .i64 3, .string s.lk, .int .i64 s.lr, .string s.vv, .int .i64 s.vr, .slice a1 n1 c1, .int .i64 (p.n : Int), .int .i64 (p.t : Int), .slice a2 n2 c2, .bool (fiveA s), .bool s.dn, .string s.dc] 34 (0, 0))) := heap_old HG.out
  obtain ⟨ybs, hybs⟩ : ∃ y, ys.alloc (.cells #[.int .i64 3, .int .i64 p.me, .int .i64 s.rd, .int .i64 0, .string B] 39) = y := ⟨_, rfl⟩
  rw [hybs] at HBybs HO HG2 ⊢
  clear hybs
  try go_simp
  refine hK.out _ _ ⟨HBybs, ?_⟩
  clear hK K
  try simp only [sx]
  refine takeH (i := 10) (v := ?vv10n2) ?hyv10n2 HBybs ?restv10n2
  case hyv10n2 => (intro wx hSx; go_simp; try with_reducible rfl)
  try simp only [sx]
  refine wpAnyH_done (by kernel_rfl) ?_ _
  refine NoPanic.normal ?_
  go_wp2_with fail
  refine bodyPost_ret (ret_two Try.results48 _ _ (w.heap.size + 1) 34 #[.int .i64 p.me, .int .i64 p.ht, .string p.own, .int .i64 s.rd, .int .i64 3, .string s.lk, .int .i64 s.lr, .string s.vv, .int .i64 s.vr, .slice a1 n1 c1, .int .i64 (p.n : Int), .int .i64 (p.t : Int), .slice a2 n2 c2, .bool (fiveA s), .bool s.dn, .string s.dc] (0, 0) rfl HG2.out rfl) rfl ⟨_, _, _, rfl, HO.out, HBybs.ext⟩
end Go.Proofs.Ytmanacbdldfmfaa

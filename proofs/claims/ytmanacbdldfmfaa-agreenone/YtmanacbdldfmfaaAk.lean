/-
 count, called.
-/
import Derived.Test.YtmanacbdldfmfaaAj
namespace Go.Proofs.Ytmanacbdldfmfaa
open Go.RowKit
set_option maxRecDepth 10000
theorem RX.voted {w0 W W' : World} {F0 : Nat → Prop} {b c d : Nat} {p : Pm} {s : Ag} {out : List Vt} {G : Nat → Prop} {u : Value} {vb bm : Nat} {sl sl' : Int → Int → Value} {vs' : List Vt} (h : RX w0 F0 b c d p s out (.pointer (some ⟨vb, 0, none⟩)) G u W) (hn : ¬ vbG vb bm sl b) (hg : ∀ k, vbG vb bm sl k → G k) (hv : VB W' vb bm sl' p.n p.t vs') (hc : Chg (vbG vb bm sl) W W') (hs : Sub (vbG vb bm sl') (vbG vb bm sl) W) :
  RX w0 F0 b c d p { s with vs := vs' } out (.pointer (some ⟨vb, 0, none⟩)) (fun k => G k ∨ vbG vb bm sl' k) u W' := by
 have off : ∀ k, k < W.heap.size → ¬ vbG vb bm sl k → ¬ vbG vb bm sl' k := fun k hk q z => by
  rcases hs k z with e | e
  ·exact q e
  ·omega
 have hb := h.ab.lt b h.ab.inG
 have hcc : ¬ vbG vb bm sl c := fun q => h.gc (hg c q)
 have hdd : ¬ vbG vb bm sl d := fun q => h.gd (hg d q)
 obtain ⟨g, h1, h2⟩ := h.ab.blk
 refine ⟨⟨⟨g, h1.keep hc.size (hc.block b hb hn), ⟨h2.c0, h2.c1, h2.c2, h2.c4, h2.c5, h2.c6, h2.c7, h2.c139, h2.c140, h2.c3, h2.c8, h2.c9, h2.c138, h2.cp⟩⟩, .inl h.ab.inG, ?_, fun _ => ⟨vb, bm, sl', rfl, hv, off b hb hn, fun k q => .inr q⟩⟩, ?_, h.chg.trans hc (fun k q => h.sub k (hg k q)), h.hc.keep hc.size (hc.block c h.hc.1 hcc), h.hd.keep hc.size (hc.block d h.hd.1 hdd), h.c0, h.d0, h.cd, ?_, ?_, own_keep h.own (fun k q => hc.block k (h.own.lt k q).2 (fun z => (h.ou k q).1 (hg k z))), fun k q => ⟨?_, (h.ou k q).2⟩⟩
 ·rintro k (q | q)
  ·exact Nat.lt_of_lt_of_le (h.ab.lt k q) hc.size
  ·exact hv.lt k q
 ·rintro k (q | q)
  ·exact h.sub k q
  ·rcases hs k q with e | e
   ·exact h.sub k (hg k e)
   ·exact .inr (Nat.le_trans h.chg.size e)
 ·rintro (q | q)
  ·exact h.gc q
  ·exact off c h.hc.1 hcc q
 ·rintro (q | q)
  ·exact h.gd q
  ·exact off d h.hd.1 hdd q
 ·rintro (z | z)
  ·exact (h.ou k q).1 z
  ·exact off k (h.own.lt k q).2 (fun e => (h.ou k q).1 (hg k e)) z
/-- A vote is put. -/
theorem Run.put {w0 W : World} {F0 : Nat → Prop} {b c d : Nat} {p : Pm} {s : Ag} {out : List Vt} (hp : okP p) (hi : InvA p s) (hd : s.dn = false) (m : Vt) (hlen : s.vs.length ≤ 1000) (hk : (Lit.int .i64 m.kd).wf = true) (hr : (Lit.int .i64 m.rd).wf = true) (h : Run w0 F0 b c d p s out W) : ∃ a, W.cell? ⟨b, 138, none⟩ = some (.pointer (some a)) ∧ ∀ wx, Ext W wx → Calls Try.prog 41 #[.pointer (some a), wv m] wx fun e w' => (∃ x, e = .returned (.bool x)) ∧ Run w0 F0 b c d p { s with vs := putV p.n s.vs m } out w' ∧ wx.heap.size ≤ w'.heap.size ∧ (∀ k, W.heap.size ≤ k → k < wx.heap.size → w'.heap[k]? = wx.heap[k]?) ∧ w'.cell? ⟨b, 138, none⟩ = some (.pointer (some a)) := by
 obtain ⟨vp, G, u, h⟩ := h
 obtain ⟨vb, bm, sl, rfl, hV, hn, hg⟩ := h.ab.vot hd
 refine ⟨_, (h.ab.live hd).2.2.2, fun wx hx => ?_⟩
 refine (vput_any m hi.vs (by have := hp.1.2.2.2; omega) hlen hk hr wx (hV.ext hx)).mono ?_
 rintro e w' ⟨sl', rfl, hv', hc, hs⟩
 refine ⟨⟨_, rfl⟩, ⟨_, _, _, (h.ext hx).voted hn hg hv' hc hs⟩, hc.size, fun k hk hk2 => hc.block k hk2 (fun q => by have := hV.lt k q; omega), (((h.ext hx).voted hn hg hv' hc hs).ab.live hd).2.2.2⟩
def cntA (p : Pm) (s : Ag) (m : Vt) : Ag × List Vt := (countA p s m).getD (s, [])
theorem cnt_1 (p : Pm) (s : Ag) {m : Vt} (h : m.kd = 1) : cntA p s m = (prA p s m, []) := by
 unfold cntA countA prA
 rw [if_neg (by omega)]
 by_cases hw : wOk m = false
 ·rw [if_pos hw, if_neg (by rw [hw]; rintro ⟨q, _⟩; cases q)]; rfl
 ·have hw2 : wOk m = true := by simpa using hw
  rw [if_neg hw, if_pos h]
  by_cases hq : propA s.ps m.rd = none ∧ m.fr = leadA p.n p.ht m.rd
  ·rw [if_pos hq, if_pos ⟨hw2, hq⟩]; rfl
  ·rw [if_neg hq, if_neg (fun z => hq z.2)]; rfl
theorem cnt_4 (p : Pm) (s : Ag) {m : Vt} (h : m.kd = 4) (hr : m.rd = s.rd) : cntA p s m = timeA p s m.va := by
 unfold cntA countA
 rw [if_pos h]
 by_cases hq : 1 ≤ m.va ∧ m.va ≤ 3 ∧ m.rd = s.rd
 ·rw [if_pos hq]; rfl
 ·rw [if_neg hq]
  unfold timeA
  rw [if_neg (by omega), if_neg (by omega), if_neg (by omega)]; rfl
theorem cnt_4n (p : Pm) (s : Ag) {m : Vt} (h : m.kd = 4) (hr : ¬ m.rd = s.rd) : cntA p s m = (s, []) := by
 unfold cntA countA
 rw [if_pos h, if_neg (fun q => hr q.2.2)]; rfl
theorem cnt_n (p : Pm) (s : Ag) {m : Vt} (h : ¬ m.kd = 1 ∧ ¬ m.kd = 4 ∧ ¬ ((m.kd = 2 ∨ m.kd = 3) ∧ m.va = 0)) : cntA p s m = (s, []) := by
 unfold cntA countA
 rw [if_neg h.2.1, if_pos (by
  cases q : wOk m with
  | false => rfl
  | true =>
   have := (wOk_iff.1 q).2.2.2.2.2
   omega)]; rfl
theorem cnt_v {p : Pm} (s : Ag) {m : Vt} (hp : okP p) (h : m.kd = 2 ∨ m.kd = 3) (hv : m.va = 0) : cntA p s m = ({ s with vs := putV p.n s.vs m }, []) := by
 unfold cntA countA
 rw [if_neg (by omega)]
 by_cases ho : okV p.n s.vs m = true
 ·have hm : mayV p.n m = true := by unfold okV at ho; simp only [Bool.and_eq_true] at ho; exact ho.1
  have := may_iffV.1 hm
  have hn : (p.n : Int) ≤ 7 := hp.1.2.2.2
  rw [if_neg (by rw [wOk_iff.2 ⟨this.2.1, by omega, this.2.2.2.1, this.2.2.2.2.1, this.2.2.2.2.2, .inr ⟨h, hv⟩⟩]; decide), if_neg (by omega), if_pos ho, put_ok ho]
  rfl
 ·have ho2 : okV p.n s.vs m = false := by simpa using ho
  rw [put_no ho2]
  by_cases hw : wOk m = false
  ·rw [if_pos hw]; rfl
  ·rw [if_neg hw, if_neg (by omega), if_neg ho]; rfl
set_option maxHeartbeats 4000000 in
theorem count_1 {w0 W : World} {F0 : Nat → Prop} {b c d : Nat} {p : Pm} {s : Ag} {out : List Vt} (fr rd va : Int) (vl : ByteArray) (hp : okP p) (hi : InvA p s) (hd : s.dn = false) (hl : out.length ≤ 9000)  (h : Run w0 F0 b c d p s out W) :
  Calls Try.prog 28 #[.pointer (some ⟨b, 0, none⟩), .agg #[.int .i64 1, .int .i64 fr, .int .i64 rd, .int .i64 va, .string vl]] W fun e w' => e = .returned (.tuple #[]) ∧ Run w0 F0 b c d p (cntA p s ⟨1, fr, rd, va, vl⟩).1 (out ++ (cntA p s ⟨1, fr, rd, va, vl⟩).2) w' := by
 have u0 := And.intro hp (And.intro hi (And.intro hd hl))
 clear u0
 have HR0 : Hid (Run w0 F0 b c d p s out W) := h
 have HR1 : Hid (Run w0 F0 b c d p s out (W.alloc (.cells #[.int .i64 1, .int .i64 fr, .int .i64 rd, .int .i64 va, .string vl] 39))) := h.ext ((Ext.refl W).alloc _)
 have HN : Hid (cntA p s ⟨1, fr, rd, va, vl⟩ = (prA p s ⟨1, fr, rd, va, vl⟩, [])) := cnt_1 p s rfl
 have HC : Hid (Calls Try.prog 40 #[.pointer (some ⟨b, 0, none⟩), .agg #[.int .i64 1, .int .i64 fr, .int .i64 rd, .int .i64 va, .string vl]] (W.alloc (.cells #[.int .i64 1, .int .i64 fr, .int .i64 rd, .int .i64 va, .string vl] 39)) fun e w' => e = .returned (.tuple #[]) ∧ Run w0 F0 b c d p (prA p s ⟨1, fr, rd, va, vl⟩) out w') := propose_any fr rd va vl hp hi hd HR1.out
 clear h hp hi hd hl
 go_enter Try.func28, Try.ntmps28
 go_wp2_with fail
 refine HC.out.mono ?_
 rintro e w1 ⟨rfl, hR⟩
 have HR : Hid _ := hR
 clear hR
 go_wp2_with fail
 refine bodyPost_end (v := .tuple #[]) (by simp [results, Try.results28, go_sem]) rfl ⟨rfl, ?_⟩
 rw [HN.out, List.append_nil]
 exact HR.out
set_option maxHeartbeats 4000000 in
theorem count_2n {w0 W : World} {F0 : Nat → Prop} {b c d : Nat} {p : Pm} {s : Ag} {out : List Vt} (fr rd va : Int) (vl : ByteArray) (hp : okP p) (hi : InvA p s) (hd : s.dn = false) (hl : out.length ≤ 9000) (hv : ¬ va = 0) (h : Run w0 F0 b c d p s out W) :
  Calls Try.prog 28 #[.pointer (some ⟨b, 0, none⟩), .agg #[.int .i64 2, .int .i64 fr, .int .i64 rd, .int .i64 va, .string vl]] W fun e w' => e = .returned (.tuple #[]) ∧ Run w0 F0 b c d p (cntA p s ⟨2, fr, rd, va, vl⟩).1 (out ++ (cntA p s ⟨2, fr, rd, va, vl⟩).2) w' := by
 have u0 := And.intro hp (And.intro hi (And.intro hd hl))
 clear u0
 have HR0 : Hid (Run w0 F0 b c d p s out W) := h
 have HR1 : Hid (Run w0 F0 b c d p s out (W.alloc (.cells #[.int .i64 2, .int .i64 fr, .int .i64 rd, .int .i64 va, .string vl] 39))) := h.ext ((Ext.refl W).alloc _)
 have HN : Hid (cntA p s ⟨2, fr, rd, va, vl⟩ = (s, [])) := cnt_n p s ⟨(by decide : ¬ (2 : Int) = 1), (by decide : ¬ (2 : Int) = 4), fun q => hv q.2⟩
 have e0 : (va == 0) = false := by simpa using hv
 clear h hp hi hd hl hv
 go_enter Try.func28, Try.ntmps28
 go_wp2_with fail
 refine bodyPost_end (v := .tuple #[]) (by simp [results, Try.results28, go_sem]) rfl ⟨rfl, ?_⟩
 rw [HN.out, List.append_nil]
 exact HR1.out
set_option maxHeartbeats 4000000 in
theorem count_2 {w0 W : World} {F0 : Nat → Prop} {b c d : Nat} {p : Pm} {s : Ag} {out : List Vt} (fr rd va : Int) (vl : ByteArray) (hp : okP p) (hi : InvA p s) (hd : s.dn = false) (hl : out.length ≤ 9000) (hlen : s.vs.length ≤ 1000) (hrw : (Lit.int .i64 rd).wf = true) (hv : va = 0) (h : Run w0 F0 b c d p s out W) :
  Calls Try.prog 28 #[.pointer (some ⟨b, 0, none⟩), .agg #[.int .i64 2, .int .i64 fr, .int .i64 rd, .int .i64 va, .string vl]] W fun e w' => e = .returned (.tuple #[]) ∧ Run w0 F0 b c d p (cntA p s ⟨2, fr, rd, va, vl⟩).1 (out ++ (cntA p s ⟨2, fr, rd, va, vl⟩).2) w' := by
 have u0 := And.intro hp (And.intro hi (And.intro hd hl))
 clear u0
 have HR0 : Hid (Run w0 F0 b c d p s out W) := h
 have HR1 : Hid (Run w0 F0 b c d p s out (W.alloc (.cells #[.int .i64 2, .int .i64 fr, .int .i64 rd, .int .i64 va, .string vl] 39))) := h.ext ((Ext.refl W).alloc _)
 subst hv
 have HN : Hid (cntA p s ⟨2, fr, rd, 0, vl⟩ = ({ s with vs := putV p.n s.vs ⟨2, fr, rd, 0, vl⟩ }, [])) := cnt_v s hp (by decide : (2 : Int) = 2 ∨ (2 : Int) = 3) rfl
 obtain ⟨av, c138, hPt⟩ := h.put hp hi hd ⟨2, fr, rd, 0, vl⟩ hlen (by decide : (Lit.int .i64 2).wf = true) hrw
 have HPt : Hid (∀ wx, Ext W wx → Calls Try.prog 41 #[.pointer (some av), .agg #[.int .i64 2, .int .i64 fr, .int .i64 rd, .int .i64 0, .string vl]] wx fun e w' => (∃ x, e = .returned (.bool x)) ∧ Run w0 F0 b c d p { s with vs := putV p.n s.vs ⟨2, fr, rd, 0, vl⟩ } out w' ∧ wx.heap.size ≤ w'.heap.size ∧ (∀ k, W.heap.size ≤ k → k < wx.heap.size → w'.heap[k]? = wx.heap[k]?) ∧ w'.cell? ⟨b, 138, none⟩ = some (.pointer (some av))) := hPt
 have c138x : Hid (W.cell? ⟨b, 138, none⟩ = some (.pointer (some av))) := c138
 clear h hp hi hd hl hrw hlen hPt c138
 go_enter Try.func28, Try.ntmps28
 go_wp2_with fail
 refine wp_region_noPanic ?_
 refine wp_region_held (S := fun wx => (∃ vs', Run w0 F0 b c d p { s with vs := vs' } out wx) ∧ wx.cell? ⟨b, 138, none⟩ = some (.pointer (some av)) ∧ Wd W.heap.size 2 fr rd 0 vl wx) (by kernel_rfl) ?_
 rw [show ({ (W.alloc (.cells #[.int .i64 2, .int .i64 fr, .int .i64 rd, .int .i64 0, .string vl] 39)) with drawn := (W.alloc (.cells #[.int .i64 2, .int .i64 fr, .int .i64 rd, .int .i64 0, .string vl] 39)).drawn + 1 } : World) = (W.alloc (.cells #[.int .i64 2, .int .i64 fr, .int .i64 rd, .int .i64 0, .string vl] 39)).drew from rfl]
 have HE0 : Ext W (W.alloc (.cells #[.int .i64 2, .int .i64 fr, .int .i64 rd, .int .i64 0, .string vl] 39)).drew := ((Ext.refl W).alloc _).drew
 have HQ : (fun wx => (∃ vs', Run w0 F0 b c d p { s with vs := vs' } out wx) ∧ wx.cell? ⟨b, 138, none⟩ = some (.pointer (some av)) ∧ Wd W.heap.size 2 fr rd 0 vl wx) (W.alloc (.cells #[.int .i64 2, .int .i64 fr, .int .i64 rd, .int .i64 0, .string vl] 39)).drew := ⟨⟨s.vs, HR0.out.ext HE0⟩, later HE0 c138x.out, Wd.ext (Wd.new W 2 fr rd 0 vl) (Ext.refl _).drew⟩
 generalize (W.alloc (.cells #[.int .i64 2, .int .i64 fr, .int .i64 rd, .int .i64 0, .string vl] 39)).drew = y0 at *
 refine takeH (i := 0) (v := ?vp0) ?hyp0 HQ ?restp0
 case hyp0 => (intro wx hSx; obtain ⟨⟨vs', hq⟩, c138, w0c, w1c, w2c, w3c, w4c, wl⟩ := hSx; obtain ⟨hb, _⟩ := hq.at; go_simp; try with_reducible rfl)
 try simp only [sx]
 refine takeH (i := 1) (v := ?vp1) ?hyp1 HQ ?restp1
 case hyp1 => (intro wx hSx; obtain ⟨⟨vs', hq⟩, c138, w0c, w1c, w2c, w3c, w4c, wl⟩ := hSx; obtain ⟨hb, _⟩ := hq.at; go_simp; try with_reducible rfl)
 try simp only [sx]
 refine takeH (i := 2) (v := ?vp2) ?hyp2 HQ ?restp2
 case hyp2 => (intro wx hSx; obtain ⟨⟨vs', hq⟩, c138, w0c, w1c, w2c, w3c, w4c, wl⟩ := hSx; obtain ⟨hb, _⟩ := hq.at; go_simp; try with_reducible rfl)
 try simp only [sx]
 refine takeH (i := 3) (v := ?vp3) ?hyp3 HQ ?restp3
 case hyp3 => (intro wx hSx; obtain ⟨⟨vs', hq⟩, c138, w0c, w1c, w2c, w3c, w4c, wl⟩ := hSx; obtain ⟨hb, _⟩ := hq.at; go_simp; try with_reducible rfl)
 try simp only [sx]
 refine takeH (i := 4) (v := ?vp4) ?hyp4 HQ ?restp4
 case hyp4 => (intro wx hSx; obtain ⟨⟨vs', hq⟩, c138, w0c, w1c, w2c, w3c, w4c, wl⟩ := hSx; obtain ⟨hb, _⟩ := hq.at; go_simp; try with_reducible rfl)
 try simp only [sx]
 refine held_one (i := 5) (by kernel_rfl) rfl rfl (fun K hK => ?_)
 go_simp
 refine (HPt.out _ HE0).mono ?_
 rintro e y1 ⟨⟨x, rfl⟩, hR, hsz, hbk, h8⟩
 have HR2 : Hid (Run w0 F0 b c d p { s with vs := putV p.n s.vs ⟨2, fr, rd, 0, vl⟩ } out y1) := hR
 have HQ2 : (fun wx => (∃ vs', Run w0 F0 b c d p { s with vs := vs' } out wx) ∧ wx.cell? ⟨b, 138, none⟩ = some (.pointer (some av)) ∧ Wd W.heap.size 2 fr rd 0 vl wx) y1 := ⟨⟨_, hR⟩, h8, Wd.keep HQ.2.2 hsz (hbk W.heap.size (Nat.le_refl _) HQ.2.2.2.2.2.2.2)⟩
 clear hR hsz hbk h8
 try go_simp
 refine hK.out _ _ ⟨HQ2, ?_⟩
 clear hK K
 try simp only [sx]
 refine wpAnyH_done (by kernel_rfl) ?_ _
 refine NoPanic.normal ?_
 go_wp2_with fail
 refine bodyPost_end (v := .tuple #[]) (by simp [results, Try.results28, go_sem]) rfl ⟨rfl, ?_⟩
 rw [HN.out, List.append_nil]
 exact HR2.out
set_option maxHeartbeats 4000000 in
theorem count_3n {w0 W : World} {F0 : Nat → Prop} {b c d : Nat} {p : Pm} {s : Ag} {out : List Vt} (fr rd va : Int) (vl : ByteArray) (hp : okP p) (hi : InvA p s) (hd : s.dn = false) (hl : out.length ≤ 9000) (hv : ¬ va = 0) (h : Run w0 F0 b c d p s out W) :
  Calls Try.prog 28 #[.pointer (some ⟨b, 0, none⟩), .agg #[.int .i64 3, .int .i64 fr, .int .i64 rd, .int .i64 va, .string vl]] W fun e w' => e = .returned (.tuple #[]) ∧ Run w0 F0 b c d p (cntA p s ⟨3, fr, rd, va, vl⟩).1 (out ++ (cntA p s ⟨3, fr, rd, va, vl⟩).2) w' := by
 have u0 := And.intro hp (And.intro hi (And.intro hd hl))
 clear u0
 have HR0 : Hid (Run w0 F0 b c d p s out W) := h
 have HR1 : Hid (Run w0 F0 b c d p s out (W.alloc (.cells #[.int .i64 3, .int .i64 fr, .int .i64 rd, .int .i64 va, .string vl] 39))) := h.ext ((Ext.refl W).alloc _)
 have HN : Hid (cntA p s ⟨3, fr, rd, va, vl⟩ = (s, [])) := cnt_n p s ⟨(by decide : ¬ (3 : Int) = 1), (by decide : ¬ (3 : Int) = 4), fun q => hv q.2⟩
 have e0 : (va == 0) = false := by simpa using hv
 clear h hp hi hd hl hv
 go_enter Try.func28, Try.ntmps28
 go_wp2_with fail
 refine bodyPost_end (v := .tuple #[]) (by simp [results, Try.results28, go_sem]) rfl ⟨rfl, ?_⟩
 rw [HN.out, List.append_nil]
 exact HR1.out
set_option maxHeartbeats 4000000 in
theorem count_3 {w0 W : World} {F0 : Nat → Prop} {b c d : Nat} {p : Pm} {s : Ag} {out : List Vt} (fr rd va : Int) (vl : ByteArray) (hp : okP p) (hi : InvA p s) (hd : s.dn = false) (hl : out.length ≤ 9000) (hlen : s.vs.length ≤ 1000) (hrw : (Lit.int .i64 rd).wf = true) (hv : va = 0) (h : Run w0 F0 b c d p s out W) :
  Calls Try.prog 28 #[.pointer (some ⟨b, 0, none⟩), .agg #[.int .i64 3, .int .i64 fr, .int .i64 rd, .int .i64 va, .string vl]] W fun e w' => e = .returned (.tuple #[]) ∧ Run w0 F0 b c d p (cntA p s ⟨3, fr, rd, va, vl⟩).1 (out ++ (cntA p s ⟨3, fr, rd, va, vl⟩).2) w' := by
 have u0 := And.intro hp (And.intro hi (And.intro hd hl))
 clear u0
 have HR0 : Hid (Run w0 F0 b c d p s out W) := h
 have HR1 : Hid (Run w0 F0 b c d p s out (W.alloc (.cells #[.int .i64 3, .int .i64 fr, .int .i64 rd, .int .i64 va, .string vl] 39))) := h.ext ((Ext.refl W).alloc _)
 subst hv
 have HN : Hid (cntA p s ⟨3, fr, rd, 0, vl⟩ = ({ s with vs := putV p.n s.vs ⟨3, fr, rd, 0, vl⟩ }, [])) := cnt_v s hp (by decide : (3 : Int) = 2 ∨ (3 : Int) = 3) rfl
 obtain ⟨av, c138, hPt⟩ := h.put hp hi hd ⟨3, fr, rd, 0, vl⟩ hlen (by decide : (Lit.int .i64 3).wf = true) hrw
 have HPt : Hid (∀ wx, Ext W wx → Calls Try.prog 41 #[.pointer (some av), .agg #[.int .i64 3, .int .i64 fr, .int .i64 rd, .int .i64 0, .string vl]] wx fun e w' => (∃ x, e = .returned (.bool x)) ∧ Run w0 F0 b c d p { s with vs := putV p.n s.vs ⟨3, fr, rd, 0, vl⟩ } out w' ∧ wx.heap.size ≤ w'.heap.size ∧ (∀ k, W.heap.size ≤ k → k < wx.heap.size → w'.heap[k]? = wx.heap[k]?) ∧ w'.cell? ⟨b, 138, none⟩ = some (.pointer (some av))) := hPt
 have c138x : Hid (W.cell? ⟨b, 138, none⟩ = some (.pointer (some av))) := c138
 clear h hp hi hd hl hrw hlen hPt c138
 go_enter Try.func28, Try.ntmps28
 go_wp2_with fail
 refine wp_region_noPanic ?_
 refine wp_region_held (S := fun wx => (∃ vs', Run w0 F0 b c d p { s with vs := vs' } out wx) ∧ wx.cell? ⟨b, 138, none⟩ = some (.pointer (some av)) ∧ Wd W.heap.size 3 fr rd 0 vl wx) (by kernel_rfl) ?_
 rw [show ({ (W.alloc (.cells #[.int .i64 3, .int .i64 fr, .int .i64 rd, .int .i64 0, .string vl] 39)) with drawn := (W.alloc (.cells #[.int .i64 3, .int .i64 fr, .int .i64 rd, .int .i64 0, .string vl] 39)).drawn + 1 } : World) = (W.alloc (.cells #[.int .i64 3, .int .i64 fr, .int .i64 rd, .int .i64 0, .string vl] 39)).drew from rfl]
 have HE0 : Ext W (W.alloc (.cells #[.int .i64 3, .int .i64 fr, .int .i64 rd, .int .i64 0, .string vl] 39)).drew := ((Ext.refl W).alloc _).drew
 have HQ : (fun wx => (∃ vs', Run w0 F0 b c d p { s with vs := vs' } out wx) ∧ wx.cell? ⟨b, 138, none⟩ = some (.pointer (some av)) ∧ Wd W.heap.size 3 fr rd 0 vl wx) (W.alloc (.cells #[.int .i64 3, .int .i64 fr, .int .i64 rd, .int .i64 0, .string vl] 39)).drew := ⟨⟨s.vs, HR0.out.ext HE0⟩, later HE0 c138x.out, Wd.ext (Wd.new W 3 fr rd 0 vl) (Ext.refl _).drew⟩
 generalize (W.alloc (.cells #[.int .i64 3, .int .i64 fr, .int .i64 rd, .int .i64 0, .string vl] 39)).drew = y0 at *
 refine takeH (i := 0) (v := ?vp0) ?hyp0 HQ ?restp0
 case hyp0 => (intro wx hSx; obtain ⟨⟨vs', hq⟩, c138, w0c, w1c, w2c, w3c, w4c, wl⟩ := hSx; obtain ⟨hb, _⟩ := hq.at; go_simp; try with_reducible rfl)
 try simp only [sx]
 refine takeH (i := 1) (v := ?vp1) ?hyp1 HQ ?restp1
 case hyp1 => (intro wx hSx; obtain ⟨⟨vs', hq⟩, c138, w0c, w1c, w2c, w3c, w4c, wl⟩ := hSx; obtain ⟨hb, _⟩ := hq.at; go_simp; try with_reducible rfl)
 try simp only [sx]
 refine takeH (i := 2) (v := ?vp2) ?hyp2 HQ ?restp2
 case hyp2 => (intro wx hSx; obtain ⟨⟨vs', hq⟩, c138, w0c, w1c, w2c, w3c, w4c, wl⟩ := hSx; obtain ⟨hb, _⟩ := hq.at; go_simp; try with_reducible rfl)
 try simp only [sx]
 refine takeH (i := 3) (v := ?vp3) ?hyp3 HQ ?restp3
 case hyp3 => (intro wx hSx; obtain ⟨⟨vs', hq⟩, c138, w0c, w1c, w2c, w3c, w4c, wl⟩ := hSx; obtain ⟨hb, _⟩ := hq.at; go_simp; try with_reducible rfl)
 try simp only [sx]
 refine takeH (i := 4) (v := ?vp4) ?hyp4 HQ ?restp4
 case hyp4 => (intro wx hSx; obtain ⟨⟨vs', hq⟩, c138, w0c, w1c, w2c, w3c, w4c, wl⟩ := hSx; obtain ⟨hb, _⟩ := hq.at; go_simp; try with_reducible rfl)
 try simp only [sx]
 refine held_one (i := 5) (by kernel_rfl) rfl rfl (fun K hK => ?_)
 go_simp
 refine (HPt.out _ HE0).mono ?_
 rintro e y1 ⟨⟨x, rfl⟩, hR, hsz, hbk, h8⟩
 have HR2 : Hid (Run w0 F0 b c d p { s with vs := putV p.n s.vs ⟨3, fr, rd, 0, vl⟩ } out y1) := hR
 have HQ2 : (fun wx => (∃ vs', Run w0 F0 b c d p { s with vs := vs' } out wx) ∧ wx.cell? ⟨b, 138, none⟩ = some (.pointer (some av)) ∧ Wd W.heap.size 3 fr rd 0 vl wx) y1 := ⟨⟨_, hR⟩, h8, Wd.keep HQ.2.2 hsz (hbk W.heap.size (Nat.le_refl _) HQ.2.2.2.2.2.2.2)⟩
 clear hR hsz hbk h8
 try go_simp
 refine hK.out _ _ ⟨HQ2, ?_⟩
 clear hK K
 try simp only [sx]
 refine wpAnyH_done (by kernel_rfl) ?_ _
 refine NoPanic.normal ?_
 go_wp2_with fail
 refine bodyPost_end (v := .tuple #[]) (by simp [results, Try.results28, go_sem]) rfl ⟨rfl, ?_⟩
 rw [HN.out, List.append_nil]
 exact HR2.out
set_option maxHeartbeats 4000000 in
theorem count_4n {w0 W : World} {F0 : Nat → Prop} {b c d : Nat} {p : Pm} {s : Ag} {out : List Vt} (fr rd va : Int) (vl : ByteArray) (hp : okP p) (hi : InvA p s) (hd : s.dn = false) (hl : out.length ≤ 9000) (hr : ¬ rd = s.rd) (h : Run w0 F0 b c d p s out W) :
  Calls Try.prog 28 #[.pointer (some ⟨b, 0, none⟩), .agg #[.int .i64 4, .int .i64 fr, .int .i64 rd, .int .i64 va, .string vl]] W fun e w' => e = .returned (.tuple #[]) ∧ Run w0 F0 b c d p (cntA p s ⟨4, fr, rd, va, vl⟩).1 (out ++ (cntA p s ⟨4, fr, rd, va, vl⟩).2) w' := by
 have u0 := And.intro hp (And.intro hi (And.intro hd hl))
 clear u0
 have HR0 : Hid (Run w0 F0 b c d p s out W) := h
 have HR1 : Hid (Run w0 F0 b c d p s out (W.alloc (.cells #[.int .i64 4, .int .i64 fr, .int .i64 rd, .int .i64 va, .string vl] 39))) := h.ext ((Ext.refl W).alloc _)
 have HN : Hid (cntA p s ⟨4, fr, rd, va, vl⟩ = (s, [])) := cnt_4n p s rfl hr
 have e0 : (rd == s.rd) = false := by simpa using hr
 have HRq : Hid (∀ q, Run w0 F0 b c d p s out ((W.alloc (.cells #[.int .i64 4, .int .i64 fr, .int .i64 rd, .int .i64 va, .string vl] 39)).drewN q)) := fun q => HR1.out.ext ((Ext.refl _).drewN q)
 obtain ⟨hb, _, _, _, c4, _⟩ := h.at
 clear h hp hi hd hl hr
 go_enter Try.func28, Try.ntmps28
 go_wp2_with fail
 go_quiet (fail)
 go_wp2_with fail
 refine bodyPost_end (v := .tuple #[]) (by simp [results, Try.results28, go_sem]) rfl ⟨rfl, ?_⟩
 rw [HN.out, List.append_nil]
 exact HRq.out _
set_option maxHeartbeats 4000000 in
theorem count_4 {w0 W : World} {F0 : Nat → Prop} {b c d : Nat} {p : Pm} {s : Ag} {out : List Vt} (fr rd va : Int) (vl : ByteArray) (hp : okP p) (hi : InvA p s) (hd : s.dn = false) (hl : out.length ≤ 9000) (hr : rd = s.rd) (h : Run w0 F0 b c d p s out W) :
  Calls Try.prog 28 #[.pointer (some ⟨b, 0, none⟩), .agg #[.int .i64 4, .int .i64 fr, .int .i64 rd, .int .i64 va, .string vl]] W fun e w' => e = .returned (.tuple #[]) ∧ Run w0 F0 b c d p (cntA p s ⟨4, fr, rd, va, vl⟩).1 (out ++ (cntA p s ⟨4, fr, rd, va, vl⟩).2) w' := by
 have u0 := And.intro hp (And.intro hi (And.intro hd hl))
 clear u0
 have HR0 : Hid (Run w0 F0 b c d p s out W) := h
 have HR1 : Hid (Run w0 F0 b c d p s out (W.alloc (.cells #[.int .i64 4, .int .i64 fr, .int .i64 rd, .int .i64 va, .string vl] 39))) := h.ext ((Ext.refl W).alloc _)
 have HN : Hid (cntA p s ⟨4, fr, rd, va, vl⟩ = timeA p s va) := cnt_4 p s rfl hr
 have e0 : (rd == s.rd) = true := by simpa using hr
 have HC : Hid (∀ q, Calls Try.prog 42 #[.pointer (some ⟨b, 0, none⟩), .int .i64 va] ((W.alloc (.cells #[.int .i64 4, .int .i64 fr, .int .i64 rd, .int .i64 va, .string vl] 39)).drewN q) fun e w' => e = .returned (.tuple #[]) ∧ Run w0 F0 b c d p (timeA p s va).1 (out ++ (timeA p s va).2) w') := fun q => time_any hp hi hd hl va (HR1.out.ext ((Ext.refl _).drewN q))
 obtain ⟨hb, _, _, _, c4, _⟩ := h.at
 clear h hp hi hd hl hr
 go_enter Try.func28, Try.ntmps28
 go_wp2_with fail
 go_quiet (fail)
 go_wp2_with fail
 refine (HC.out _).mono ?_
 rintro e w1 ⟨rfl, hR⟩
 have HR : Hid _ := hR
 clear hR
 go_wp2_with fail
 refine bodyPost_end (v := .tuple #[]) (by simp [results, Try.results28, go_sem]) rfl ⟨rfl, ?_⟩
 rw [HN.out]
 exact HR.out
set_option maxHeartbeats 4000000 in
theorem count_n {w0 W : World} {F0 : Nat → Prop} {b c d : Nat} {p : Pm} {s : Ag} {out : List Vt} (kd fr rd va : Int) (vl : ByteArray) (h1 : ¬ kd = 1) (h2 : ¬ kd = 2) (h3 : ¬ kd = 3) (h4 : ¬ kd = 4) (h : Run w0 F0 b c d p s out W) :
  Calls Try.prog 28 #[.pointer (some ⟨b, 0, none⟩), .agg #[.int .i64 kd, .int .i64 fr, .int .i64 rd, .int .i64 va, .string vl]] W fun e w' => e = .returned (.tuple #[]) ∧ Run w0 F0 b c d p (cntA p s ⟨kd, fr, rd, va, vl⟩).1 (out ++ (cntA p s ⟨kd, fr, rd, va, vl⟩).2) w' := by
 have HR1 : Hid (Run w0 F0 b c d p s out (W.alloc (.cells #[.int .i64 kd, .int .i64 fr, .int .i64 rd, .int .i64 va, .string vl] 39))) := h.ext ((Ext.refl W).alloc _)
 have HN : Hid (cntA p s ⟨kd, fr, rd, va, vl⟩ = (s, [])) := cnt_n p s ⟨h1, h4, fun q => by rcases q.1 with e | e; exact h2 e; exact h3 e⟩
 have e1 : (kd == 1) = false := by simpa using h1
 have e2 : (kd == 2) = false := by simpa using h2
 have e3 : (kd == 3) = false := by simpa using h3
 have e4 : (kd == 4) = false := by simpa using h4
 clear h h1 h2 h3 h4
 go_enter Try.func28, Try.ntmps28
 go_wp2_with fail
 refine bodyPost_end (v := .tuple #[]) (by simp [results, Try.results28, go_sem]) rfl ⟨rfl, ?_⟩
 rw [HN.out, List.append_nil]
 exact HR1.out
theorem count_any {w0 W : World} {F0 : Nat → Prop} {b c d : Nat} {p : Pm} {s : Ag} {out : List Vt} (m : Vt) (hp : okP p) (hi : InvA p s) (hd : s.dn = false) (hl : out.length ≤ 9000) (hlen : s.vs.length ≤ 1000) (hrw : (Lit.int .i64 m.rd).wf = true) (h : Run w0 F0 b c d p s out W) :
  Calls Try.prog 28 #[.pointer (some ⟨b, 0, none⟩), wv m] W fun e w' => e = .returned (.tuple #[]) ∧ Run w0 F0 b c d p (cntA p s m).1 (out ++ (cntA p s m).2) w' := by
 obtain ⟨kd, fr, rd, va, vl⟩ := m
 by_cases h1 : kd = 1
 ·subst h1; exact count_1 fr rd va vl hp hi hd hl h
 by_cases h2 : kd = 2
 ·subst h2
  by_cases hv : va = 0
  ·exact count_2 fr rd va vl hp hi hd hl hlen hrw hv h
  ·exact count_2n fr rd va vl hp hi hd hl hv h
 by_cases h3 : kd = 3
 ·subst h3
  by_cases hv : va = 0
  ·exact count_3 fr rd va vl hp hi hd hl hlen hrw hv h
  ·exact count_3n fr rd va vl hp hi hd hl hv h
 by_cases h4 : kd = 4
 ·subst h4
  by_cases hr : rd = s.rd
  ·exact count_4 fr rd va vl hp hi hd hl hr h
  ·exact count_4n fr rd va vl hp hi hd hl hr h
 exact count_n kd fr rd va vl h1 h2 h3 h4 h
end Go.Proofs.Ytmanacbdldfmfaa

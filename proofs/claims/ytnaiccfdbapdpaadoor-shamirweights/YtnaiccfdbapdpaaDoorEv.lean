/-
  shamir.Eval and shamir.Shares, called: a polynomial at a place, and its shares, in new memory; nothing old is turned. The function literal that Eval hands to sum turns its own power alone.
-/
import Derived.Test.YtnaiccfdbapdpaaDoorWg
namespace Go.Proofs.YtnaiccfdbapdpaaDoor
open Go.RowKit
theorem gb_ext {w w' : World} {b : Option Nat} (h : Ext w w') : w.grownBy w' b := ⟨h.os, h.tape, h.output, h.size, fun k hk _ => h.block k hk⟩
theorem gb_trans {a w w' : World} {b : Option Nat} (h : a.grownBy w b) (k : w.grownBy w' b) : a.grownBy w' b :=
  ⟨k.os.trans h.os, k.tape.trans h.tape, k.output.trans h.output, Nat.le_trans h.size k.size, fun j hj hne => (k.block j (Nat.lt_of_lt_of_le hj h.size) hne).trans (h.block j hj hne)⟩
theorem gb_st {a w : World} {b i : Nat} {v : Value} (h : a.grownBy w (some b)) : a.grownBy (w.setCell ⟨b, i, none⟩ v) (some b) :=
  ⟨h.os, h.tape, h.output, by simpa using h.size, fun j hj hne => (Below.heap_setCell w ⟨b, i, none⟩ v j (fun e => hne (by rw [e]))).trans (h.block j hj hne)⟩
theorem gb_new {a w : World} {b : Option Nat} {c i : Nat} {v : Value} (hc : a.heap.size ≤ c) (h : a.grownBy w b) : a.grownBy (w.setCell ⟨c, i, none⟩ v) b :=
  ⟨h.os, h.tape, h.output, by simpa using h.size, fun j hj hne => (Below.heap_setCell w ⟨c, i, none⟩ v j (fun e => by have e' : j = c := e; omega)).trans (h.block j hj hne)⟩
theorem WE.grown {w wx wy : World} {g h b : Nat} {u0 u1 u2 u3 d0 d1 d2 d3 : Int} (k : WE w g h u0 u1 u2 u3 d0 d1 d2 d3 wx) (hx : wx.grownBy wy (some b)) (hg : g ≠ b) (hh : h ≠ b) (hb : SizeLe w b) : WE w g h u0 u1 u2 u3 d0 d1 d2 d3 wy :=
  ⟨k.1.grown hx (fun e => hg (Option.some.inj e)), k.2.1.grown hx (fun e => hh (Option.some.inj e)), Below.grown k.2.2 hx k.2.2.size (fun j hj => by cases hj; exact hb)⟩
/-- The sum of the terms is Horner's. -/
theorem evL_snoc (X a : Int) : ∀ l : List Int, evL (l ++ [a]) X = evL l X + a * X ^ l.length
  | [] => by show a + X * 0 = 0 + a * X ^ 0; simp
  | b :: l => by
    show b + X * evL (l ++ [a]) X = b + X * evL l X + a * X ^ (l.length + 1)
    rw [evL_snoc X a l, Int.pow_succ, Int.mul_add, ← Int.add_assoc]
    congr 1
    rw [← Int.mul_assoc, ← Int.mul_assoc, Int.mul_comm X a, Int.mul_assoc, Int.mul_assoc, Int.mul_comm X]
theorem evL_sm (c : Nat → Int) (X : Int) : ∀ n, evL ((List.range n).map c) X = smN (fun i => c i * X ^ i) n
  | 0 => rfl
  | n + 1 => by
    rw [List.range_succ, List.map_append]
    show evL (_ ++ [c n]) X = smN _ n + c n * X ^ n
    rw [evL_snoc, evL_sm c X n]
    simp
theorem term_step {S C X s0 s1 s2 s3 p0 p1 p2 p3 f0 f1 f2 f3 t0 t1 t2 t3 m0 m1 m2 m3 : Int} (hs : QMod S s0 s1 s2 s3) (hp : QMod X p0 p1 p2 p3) (hc : val f0 f1 f2 f3 = C) (ht : QMod (val f0 f1 f2 f3 * val p0 p1 p2 p3) t0 t1 t2 t3) (hm : QMod (val s0 s1 s2 s3 + val t0 t1 t2 t3) m0 m1 m2 m3) : QMod (S + C * X) m0 m1 m2 m3 := by
  refine hm.cong ?_
  rw [hs.2, ht.2, hp.2, hc, mul_modq_mod, ← Int.add_emod]
theorem pow_step {X : Int} {k : Nat} {p0 p1 p2 p3 r0 r1 r2 r3 : Int} (hp : QMod (X ^ k) p0 p1 p2 p3) (hr : QMod (val p0 p1 p2 p3 * val X 0 0 0) r0 r1 r2 r3) : QMod (X ^ (k + 1)) r0 r1 r2 r3 := by
  refine hr.cong ?_
  rw [hp.2, val_one, modq_mul_mod, Int.pow_succ]
set_option maxHeartbeats 2000000 in
set_option maxRecDepth 10000 in
theorem eval1_any (j : Nat) (a0 a1 a2 a3 p0 p1 p2 p3 x : Int) (ha : Lim4 a0 a1 a2 a3) (hp : Lim4 p0 p1 p2 p3) (hx : Lim4 x 0 0 0) (bp bq : Nat) (_hne : bq ≠ bp) (w : World) (hG : Gl w) (Rp : RowF w bp p0 p1 p2 p3) (Rq : Row w bq x 0 0 0) :
    Calls Tryd.prog 27 #[.int .i64 (j : Int), .agg #[.int .u64 a0, .int .u64 a1, .int .u64 a2, .int .u64 a3], .pointer (some ⟨bp, 0, none⟩), .pointer (some ⟨bq, 0, none⟩)] w fun e w' => ∃ t0 t1 t2 t3 r0 r1 r2 r3 : Int, e = .returned (.agg #[.int .u64 t0, .int .u64 t1, .int .u64 t2, .int .u64 t3]) ∧ Hid (QMod (val a0 a1 a2 a3 * val p0 p1 p2 p3) t0 t1 t2 t3) ∧ Hid (QMod (val p0 p1 p2 p3 * val x 0 0 0) r0 r1 r2 r3) ∧ RowF w' bp r0 r1 r2 r3 ∧ w.grownBy w' (some bp) := by
  have HG : Hid (Gl w) := hG
  have HA : Hid (Lim4 a0 a1 a2 a3) := ha
  have HPl : Hid (Lim4 p0 p1 p2 p3) := hp
  have HXl : Hid (Lim4 x 0 0 0) := hx
  clear hG ha hp hx
  have HE1 : Hid (Ext w ((w.alloc (.cells #[.int .u64 a0, .int .u64 a1, .int .u64 a2, .int .u64 a3] 26)).alloc (.cells #[.int .u64 0, .int .u64 0, .int .u64 0, .int .u64 0] 26))) := ((Ext.refl _).alloc _).alloc _
  have Rx1 := (RowF.new w a0 a1 a2 a3).ext ((Ext.refl _).alloc (.cells #[.int .u64 0, .int .u64 0, .int .u64 0, .int .u64 0] 26))
  have Rz1 := RowF.new (w.alloc (.cells #[.int .u64 a0, .int .u64 a1, .int .u64 a2, .int .u64 a3] 26)) 0 0 0 0
  rw [show (w.alloc (.cells #[.int .u64 a0, .int .u64 a1, .int .u64 a2, .int .u64 a3] 26)).heap.size = w.heap.size + 1 from by simp] at Rz1
  have Rp1 := Rp.ext HE1.out
  have Rq1 := Rq.ext HE1.out
  have hbp : bp < w.heap.size := Rp.1.1
  go_enter Tryd.func27, Tryd.ntmps27
  obtain ⟨⟨lx, x0, x1, x2, x3⟩, ex0, ex1, ex2, ex3⟩ := Rx1
  have Rp1' := Rp1
  obtain ⟨⟨lp, q0, q1, q2, q3⟩, ep0, ep1, ep2, ep3⟩ := Rp1'
  go_wp2_with fail
  refine (smul_any _ _ _ _ _ _ _ _ HA.out HPl.out _ (HG.out.ext HE1.out)).mono ?_
  rintro e w2 ⟨t0, t1, t2, t3, rfl, HT, HX2⟩
  have HE3 : Hid (Ext w (w2.alloc (.cells #[.int .u64 t0, .int .u64 t1, .int .u64 t2, .int .u64 t3] 26))) := (HE1.out.trans HX2).alloc _
  have Rt3 := RowF.new w2 t0 t1 t2 t3
  have HXA : Ext ((w.alloc (.cells #[.int .u64 a0, .int .u64 a1, .int .u64 a2, .int .u64 a3] 26)).alloc (.cells #[.int .u64 0, .int .u64 0, .int .u64 0, .int .u64 0] 26)) (w2.alloc (.cells #[.int .u64 t0, .int .u64 t1, .int .u64 t2, .int .u64 t3] 26)) := HX2.alloc _
  have Rz3 := Rz1.ext HXA
  have Rp3 := Rp1.ext HXA
  have Rq3 := Rq1.ext HXA
  have hsz : w.heap.size + 1 + 1 ≤ w2.heap.size := by
    have := HX2.size
    have h1 := Rz1.1.1
    omega
  clear HXA HX2 Rz1 Rp1 Rq1 lx x0 x1 x2 x3 ex0 ex1 ex2 ex3 lp q0 q1 q2 q3 ep0 ep1 ep2 ep3
  have HBz : SizeLe w (w.heap.size + 1) := by unfold SizeLe; omega
  have htp : w2.heap.size ≠ bp := by omega
  have hzp : (w.heap.size + 1) ≠ bp := by omega
  have hpz : bp ≠ (w.heap.size + 1) := by omega
  have htz : w2.heap.size ≠ (w.heap.size + 1) := by omega
  have Rp3' := Rp3
  obtain ⟨⟨lp, q0, q1, q2, q3⟩, ep0, ep1, ep2, ep3⟩ := Rp3'
  obtain ⟨lq, v0, v1, v2, v3⟩ := Rq3
  go_wp2_with fail
  refine (smul_any _ _ _ _ _ _ _ _ HPl.out HXl.out _ (HG.out.ext HE3.out)).mono ?_
  rintro e w4 ⟨r0, r1, r2, r3, rfl, HR, HX4⟩
  have Rt4 := Rt3.ext HX4
  have Rz4 := Rz3.ext HX4
  have Rp4 := Rp3.ext HX4
  have HE4 : Hid (Ext w w4) := HE3.out.trans HX4
  clear HX4 Rt3 Rz3 Rp3 HE3 lp q0 q1 q2 q3 ep0 ep1 ep2 ep3 lq v0 v1 v2 v3
  have Rt5 : RowF ((((w4.setCell ⟨bp, 0, none⟩ (.int .u64 r0)).setCell ⟨bp, 1, none⟩ (.int .u64 r1)).setCell ⟨bp, 2, none⟩ (.int .u64 r2)).setCell ⟨bp, 3, none⟩ (.int .u64 r3)) w2.heap.size t0 t1 t2 t3 := Rt4.other htp |>.other htp |>.other htp |>.other htp
  have Rz5 : RowF ((((w4.setCell ⟨bp, 0, none⟩ (.int .u64 r0)).setCell ⟨bp, 1, none⟩ (.int .u64 r1)).setCell ⟨bp, 2, none⟩ (.int .u64 r2)).setCell ⟨bp, 3, none⟩ (.int .u64 r3)) (w.heap.size + 1) 0 0 0 0 := Rz4.other hzp |>.other hzp |>.other hzp |>.other hzp
  have Rp5 : RowF ((((w4.setCell ⟨bp, 0, none⟩ (.int .u64 r0)).setCell ⟨bp, 1, none⟩ (.int .u64 r1)).setCell ⟨bp, 2, none⟩ (.int .u64 r2)).setCell ⟨bp, 3, none⟩ (.int .u64 r3)) bp r0 r1 r2 r3 := RowF.set Rp4
  have HG5 : Hid (w.grownBy ((((w4.setCell ⟨bp, 0, none⟩ (.int .u64 r0)).setCell ⟨bp, 1, none⟩ (.int .u64 r1)).setCell ⟨bp, 2, none⟩ (.int .u64 r2)).setCell ⟨bp, 3, none⟩ (.int .u64 r3)) (some bp)) := gb_st (gb_st (gb_st (gb_st (gb_ext HE4.out))))
  obtain ⟨⟨lp, q0, q1, q2, q3⟩, ep0, ep1, ep2, ep3⟩ := Rp4
  clear Rt4 Rz4
  obtain ⟨⟨lt, y0, y1, y2, y3⟩, ey0, ey1, ey2, ey3⟩ := Rt5
  have Rz5' := Rz5
  obtain ⟨⟨lz, z0, z1, z2, z3⟩, ez0, ez1, ez2, ez3⟩ := Rz5'
  go_wp2_with fail
  refine bodyPost_ret (v := .agg #[.int .u64 t0, .int .u64 t1, .int .u64 t2, .int .u64 t3]) (by simp [results, Tryd.results27, go_sem, z0, z1, z2, z3]) rfl ⟨t0, t1, t2, t3, r0, r1, r2, r3, rfl, HT, HR, Rp5.other hpz |>.other hpz |>.other hpz |>.other hpz, ?_⟩
  exact gb_new HBz (gb_new HBz (gb_new HBz (gb_new HBz HG5.out)))
set_option maxHeartbeats 4000000 in
set_option maxRecDepth 10000 in
theorem sumN_any (w0 : World) (v : Value) (n : Nat) (f : Nat → Nat → Int) (x : Int) (hn : n ≤ 1000) (hl : LimN f n) (hx : Lim4 x 0 0 0) (bp bq : Nat) (hqp : bq ≠ bp) (HBp : SizeLe w0 bp) (hG : Gl w0) (hL : Lies w0 v n 4 (nc f)) (w : World) (h0 : Ext w0 w) (Rp : RowF w bp 1 0 0 0) (Rq : Row w bq x 0 0 0) :
    Calls Tryd.prog 26 #[v, .func (.func 27) #[] #[.pointer (some ⟨bp, 0, none⟩), .pointer (some ⟨bq, 0, none⟩)]] w fun e w' => ∃ r0 r1 r2 r3 : Int, e = .returned (.agg #[.int .u64 r0, .int .u64 r1, .int .u64 r2, .int .u64 r3]) ∧ Hid (QMod (evL (cfs f n) x) r0 r1 r2 r3) ∧ Ext w0 w' := by
  obtain ⟨a, cap, rfl, hL'⟩ := hL
  have HL : Hid (Lies w0 (.slice a n cap) n 4 (nc f)) := ⟨a, cap, rfl, hL'⟩
  have HG : Hid (Gl w0) := hG
  have HLi : Hid (LimN f n) := hl
  have HXl : Hid (Lim4 x 0 0 0) := hx
  have HFin : Hid (evL (cfs f n) x = smN (fun i => val (f i 0) (f i 1) (f i 2) (f i 3) * x ^ i) n) := evL_sm _ x n
  have HS0 : Hid (QMod (smN (fun i => val (f i 0) (f i 1) (f i 2) (f i 3) * x ^ i) 0) 0 0 0 0) := ⟨⟨lim_of _ rfl, lim_of _ rfl, lim_of _ rfl, lim_of _ rfl⟩, show val 0 0 0 0 = 0 % FQ by decide⟩
  have HP0 : Hid (QMod (x ^ 0) 1 0 0 0) := by rw [Int.pow_zero]; exact one_mod
  have HSt : Hid (∀ k s0 s1 s2 s3 p0 p1 p2 p3 t0 t1 t2 t3 m0 m1 m2 m3, QMod (smN (fun i => val (f i 0) (f i 1) (f i 2) (f i 3) * x ^ i) k) s0 s1 s2 s3 → QMod (x ^ k) p0 p1 p2 p3 → QMod (val (f k 0) (f k 1) (f k 2) (f k 3) * val p0 p1 p2 p3) t0 t1 t2 t3 → QMod (val s0 s1 s2 s3 + val t0 t1 t2 t3) m0 m1 m2 m3 → QMod (smN (fun i => val (f i 0) (f i 1) (f i 2) (f i 3) * x ^ i) (k + 1)) m0 m1 m2 m3) := fun k s0 s1 s2 s3 p0 p1 p2 p3 t0 t1 t2 t3 m0 m1 m2 m3 h1 h2 h3 h4 => term_step h1 h2 rfl h3 h4
  obtain ⟨SM, hSM⟩ : ∃ SM, Hid (smN (fun i => val (f i 0) (f i 1) (f i 2) (f i 3) * x ^ i) = SM) := ⟨_, rfl⟩
  rw [hSM.out] at HFin HS0 HSt
  clear hL' hG hl hx hSM
  have HE0 : Hid (Ext w0 ((w.alloc (.cells #[.int .u64 0, .int .u64 0, .int .u64 0, .int .u64 0] 26)).alloc (.cells #[.int .u64 0, .int .u64 0, .int .u64 0, .int .u64 0] 26))) := (h0.alloc _).alloc _
  have Rz0 := (RowF.new w 0 0 0 0).ext ((Ext.refl _).alloc (.cells #[.int .u64 0, .int .u64 0, .int .u64 0, .int .u64 0] 26))
  have Rg0 := RowF.new (w.alloc (.cells #[.int .u64 0, .int .u64 0, .int .u64 0, .int .u64 0] 26)) 0 0 0 0
  rw [show (w.alloc (.cells #[.int .u64 0, .int .u64 0, .int .u64 0, .int .u64 0] 26)).heap.size = w.heap.size + 1 from by simp] at Rg0
  have Rp0 := Rp.ext (((Ext.refl _).alloc (.cells #[.int .u64 0, .int .u64 0, .int .u64 0, .int .u64 0] 26)).alloc (.cells #[.int .u64 0, .int .u64 0, .int .u64 0, .int .u64 0] 26))
  have Rq0 := Rq.ext (((Ext.refl _).alloc (.cells #[.int .u64 0, .int .u64 0, .int .u64 0, .int .u64 0] 26)).alloc (.cells #[.int .u64 0, .int .u64 0, .int .u64 0, .int .u64 0] 26))
  have HBz : SizeLe w0 w.heap.size := h0.size
  have HBg : SizeLe w0 (w.heap.size + 1) := Nat.le_succ_of_le h0.size
  have hbp : bp < w.heap.size := Rp.1.1
  have hbq : bq < w.heap.size := Rq.1
  clear Rp Rq h0
  go_enter Tryd.func26, Tryd.ntmps26
  go_wp2
  generalize (w.alloc (.cells #[.int .u64 0, .int .u64 0, .int .u64 0, .int .u64 0] 26)).alloc (.cells #[.int .u64 0, .int .u64 0, .int .u64 0, .int .u64 0] 26) = W0 at *
  obtain ⟨g, hg⟩ : ∃ g, w.heap.size + 1 = g := ⟨_, rfl⟩
  obtain ⟨z, hz⟩ : ∃ z, w.heap.size = z := ⟨_, rfl⟩
  rw [hg] at Rg0 HBg ⊢
  rw [hz] at Rz0 HBz hbp hbq hg ⊢
  have hgp : g ≠ bp := by omega
  have hzp : z ≠ bp := by omega
  have hzg : z ≠ g := by omega
  have hpg : bp ≠ g := by omega
  have hqg : bq ≠ g := by omega
  have hgp' : some g ≠ some bp := fun e => hgp (Option.some.inj e)
  have hzp' : some z ≠ some bp := fun e => hzp (Option.some.inj e)
  have hqp' : some bq ≠ some bp := fun e => hqp (Option.some.inj e)
  go_loopw [10] (fun u10 wr => ∃ (k : Nat) (s0 s1 s2 s3 p0 p1 p2 p3 : Int), k ≤ n ∧ u10 = .int .i64 (k : Int) ∧ RowF wr z 0 0 0 0 ∧ RowF wr g s0 s1 s2 s3 ∧ RowF wr bp p0 p1 p2 p3 ∧ Row wr bq x 0 0 0 ∧ Hid (QMod (SM k) s0 s1 s2 s3) ∧ Hid (QMod (x ^ k) p0 p1 p2 p3) ∧ Hid (Ext w0 wr)) (fun u10 _ => n - (intOf u10).toNat)
  case atStart => exact ⟨0, 0, 0, 0, 0, 1, 0, 0, 0, Nat.zero_le _, rfl, Rz0, Rg0, Rp0, Rq0, HS0, HP0, HE0⟩
  case round =>
    obtain ⟨k, s0, s1, s2, s3, p0, p1, p2, p3, hk, rfl, Rz, Rg, Rp, Rq, HS, HP, HE⟩ := hrel
    clear Rz0 Rg0 Rp0 Rq0 HS0 HP0 HE0
    by_cases hlk : k < n
    · have h1 : (k : Int) < (n : Int) := by omega
      have h0 : (0 : Int) ≤ (k : Int) := by omega
      have hw : IntKind.i64.wrap ((k : Int) + 1) = (k : Int) + 1 := by rw [IntKind.wrap_i64]; omega
      obtain ⟨b, o, rfl, hb, x0, x1, x2, x3⟩ := (HL.out.ext HE.out).num hlk
      have HXi : Ext wr (wr.alloc (.cells #[.int .u64 (f k 0), .int .u64 (f k 1), .int .u64 (f k 2), .int .u64 (f k 3)] 26)).drew := ((Ext.refl _).alloc _).drew
      have Ri := ((RowF.new wr (f k 0) (f k 1) (f k 2) (f k 3)).ext ((Ext.refl _).drew)).1
      have hip : wr.heap.size ≠ bp := by have := Rp.1.1; omega
      have Rz0 := Rz.ext HXi
      have Rg0 := Rg.ext HXi
      have Rp0 := Rp.ext HXi
      have Rq0 := Rq.ext HXi
      have hS0 : WE w0 g wr.heap.size s0 s1 s2 s3 (f k 0) (f k 1) (f k 2) (f k 3) (wr.alloc (.cells #[.int .u64 (f k 0), .int .u64 (f k 1), .int .u64 (f k 2), .int .u64 (f k 3)] 26)).drew := ⟨Rg0.1, Ri, HE.out.trans HXi⟩
      clear HXi Ri Rz Rg Rp Rq
      go_wp2_with fail
      obtain ⟨gi, hgi⟩ : ∃ gi, wr.heap.size = gi := ⟨_, rfl⟩
      rw [hgi] at hS0 hip ⊢
      clear hgi
      refine wp_region_noPanic ?_
      refine wp_region_until (X := 6) (S := WE w0 g gi s0 s1 s2 s3 (f k 0) (f k 1) (f k 2) (f k 3)) (by kernel_rfl) ?_
      refine until_take (i := 0) (v := ?vu0) rfl (by kernel_rfl) (by kernel_rfl) (by kernel_rfl) (by kernel_rfl) (by kernel_rfl) (fun _ _ _ h => h) rfl ?hyu0 hS0 ?restu0
      case hyu0 => (intro w hSw; obtain ⟨⟨_, y0, y1, y2, y3⟩, ⟨_, x0, x1, x2, x3⟩, _⟩ := hSw; go_simp; try with_reducible rfl)
      try simp only [Act.put, List.setIfInBounds_toArray, List.set_cons_zero, List.set_cons_succ]
      refine until_take (i := 1) (v := ?vu1) rfl (by kernel_rfl) (by kernel_rfl) (by kernel_rfl) (by kernel_rfl) (by kernel_rfl) (fun _ _ _ h => h) rfl ?hyu1 hS0 ?restu1
      case hyu1 => (intro w hSw; obtain ⟨⟨_, y0, y1, y2, y3⟩, ⟨_, x0, x1, x2, x3⟩, _⟩ := hSw; go_simp; try with_reducible rfl)
      try simp only [Act.put, List.setIfInBounds_toArray, List.set_cons_zero, List.set_cons_succ]
      refine until_take (i := 2) (v := ?vu2) rfl (by kernel_rfl) (by kernel_rfl) (by kernel_rfl) (by kernel_rfl) (by kernel_rfl) (fun _ _ _ h => h) rfl ?hyu2 hS0 ?restu2
      case hyu2 => (intro w hSw; obtain ⟨⟨_, y0, y1, y2, y3⟩, ⟨_, x0, x1, x2, x3⟩, _⟩ := hSw; go_simp; try with_reducible rfl)
      try simp only [Act.put, List.setIfInBounds_toArray, List.set_cons_zero, List.set_cons_succ]
      refine until_take (i := 3) (v := ?vu3) rfl (by kernel_rfl) (by kernel_rfl) (by kernel_rfl) (by kernel_rfl) (by kernel_rfl) (fun _ _ _ h => h) rfl ?hyu3 hS0 ?restu3
      case hyu3 => (intro w hSw; obtain ⟨⟨_, y0, y1, y2, y3⟩, ⟨_, x0, x1, x2, x3⟩, _⟩ := hSw; go_simp; try with_reducible rfl)
      try simp only [Act.put, List.setIfInBounds_toArray, List.set_cons_zero, List.set_cons_succ]
      refine until_one (i := 4) (by kernel_rfl) (by kernel_rfl) rfl rfl (fun K hK => ?_)
      go_simp
      refine (eval1_any k _ _ _ _ p0 p1 p2 p3 x (HLi.out k hlk) HP.out.1 HXl.out bp bq hqp _ (HG.out.ext hS0.2.2) Rp0 Rq0).mono ?_
      rintro e w3 ⟨t0, t1, t2, t3, r0, r1, r2, r3, rfl, HT, HP1, Rp3, HX3⟩
      have hS3 := hS0.grown HX3 hgp hip HBp
      go_simp
      refine hK.out _ _ hS3 ?_
      clear hK K
      try simp only [Act.put, List.setIfInBounds_toArray, List.set_cons_zero, List.set_cons_succ]
      refine until_one (i := 5) (by kernel_rfl) (by kernel_rfl) rfl rfl (fun K hK => ?_)
      go_simp
      refine (sadd_any _ _ _ _ _ _ _ _ HS.out.1 HT.out.1 _ (HG.out.ext hS3.2.2)).mono ?_
      rintro e w4 ⟨m0, m1, m2, m3, rfl, HM, HX4⟩
      have hS4 := hS3.ext HX4
      go_simp
      refine hK.out _ _ hS4 ?_
      clear hK K
      try simp only [Act.put, List.setIfInBounds_toArray, List.set_cons_zero, List.set_cons_succ]
      refine until_last (by kernel_rfl) (by kernel_rfl) rfl rfl (fun K hK => ?_)
      have Rg4 : RowF w4 g s0 s1 s2 s3 := (Rg0.grown HX3 hgp').ext HX4
      have Rz4 : RowF w4 z 0 0 0 0 := (Rz0.grown HX3 hzp').ext HX4
      have Rq4 : Row w4 bq x 0 0 0 := (Rq0.grown HX3 hqp').ext HX4
      have Rp4 := Rp3.ext HX4
      have HE4 : Hid (Ext w0 w4) := hS4.2.2
      have Rg5 := Rg4
      clear hS0 hS3 hS4 HX3 HX4 Rg0 Rz0 Rq0 Rp0 Rp3
      obtain ⟨⟨la, y0, y1, y2, y3⟩, f0, f1, f2, f3⟩ := Rg5
      go_simp
      refine hK.out _ _ (NoPanic.normal ?_)
      clear hK K
      try simp only [Act.put, List.setIfInBounds_toArray, List.set_cons_zero, List.set_cons_succ]
      have HS1 : Hid (QMod (SM (k + 1)) m0 m1 m2 m3) := HSt.out k _ _ _ _ _ _ _ _ _ _ _ _ _ _ _ _ HS.out HP.out HT.out HM.out
      have HP2 : Hid (QMod (x ^ (k + 1)) r0 r1 r2 r3) := pow_step HP.out HP1.out
      go_wp2
      go_roundw
      case rel => exact ⟨k + 1, m0, m1, m2, m3, r0, r1, r2, r3, hlk, by push_cast; rfl, Rz4.other hzg |>.other hzg |>.other hzg |>.other hzg, RowF.set Rg4, Rp4.other hpg |>.other hpg |>.other hpg |>.other hpg, Rq4.other hqg |>.other hqg |>.other hqg |>.other hqg, HS1, HP2, Ext.st HBg (Ext.st HBg (Ext.st HBg (Ext.st HBg HE4.out)))⟩
      case measure => simp [intOf]; omega
    · obtain rfl : k = n := by omega
      have HQ : Hid (QMod (evL (cfs f k) x) s0 s1 s2 s3) := by show QMod _ _ _ _ _; rw [HFin.out]; exact HS.out
      obtain ⟨⟨lg, y0, y1, y2, y3⟩, f0, f1, f2, f3⟩ := Rg
      obtain ⟨⟨lz, z0, z1, z2, z3⟩, e0, e1, e2, e3⟩ := Rz
      go_wp2
      refine bodyPost_ret (v := .agg #[.int .u64 s0, .int .u64 s1, .int .u64 s2, .int .u64 s3]) (by simp [results, Tryd.results26, go_sem, z0, z1, z2, z3]) rfl ⟨s0, s1, s2, s3, rfl, HQ, ?_⟩
      exact Ext.st HBz (Ext.st HBz (Ext.st HBz (Ext.st HBz HE.out)))
end Go.Proofs.YtnaiccfdbapdpaaDoor

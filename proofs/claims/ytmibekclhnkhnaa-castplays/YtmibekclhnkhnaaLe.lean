/-
  sandglasslaw20.told, called; a part beside the definition's.
-/
import Derived.Test.YtmibekclhnkhnaaLc
import Derived.Test.YtmibekclhnkhnaaRg
namespace Go.Proofs.Ytmibekclhnkhnaa
open Go.RowKit
set_option maxHeartbeats 2000000 in
theorem told_any {w W : World} {pa : Addr} {N T F : Nat} {s : St} {G : Nat → Prop} (m : Msg) (a : Option Addr) (k c : Nat) (hl : s.L.length ≤ 900) (h : Cs w (.pointer (some pa)) N T F s G W) (hq : W.ownsRow 0 38 3 (.slice a k c) (stp N T F s m).2.length (mcs (stp N T F s m).2)) (hqb : ∀ b, Value.ownBlock (.slice a k c) = some b → ¬ G b) :
    Calls Try.prog 15 #[.pointer (some pa), mv3 m, .slice a k c] W fun e w' => e = .returned (.tuple #[.string ((stp N T F s m).1.tb.getD ⟨#[]⟩), .bool true]) ∧ Cs w (.pointer (some pa)) N T F (stp N T F s m).1 G w' ∧ Chg G W w' := by
  have HTk : Hid (∀ W, Cs w (.pointer (some pa)) N T F s G W → Calls Try.prog 17 #[.pointer (some pa), .agg #[.int .i64 m.kd, .int .i64 m.fr, .string m.bd]] W fun e w' => ∃ a c, e = .returned (.slice a (stp N T F s m).2.length c) ∧ w'.ownsRow W.heap.size 38 3 (.slice a (stp N T F s m).2.length c) (stp N T F s m).2.length (mcs (stp N T F s m).2) ∧ Cs w (.pointer (some pa)) N T F (stp N T F s m).1 G w' ∧ Chg G W w') := fun W h => ltake_any m hl h
  have HS : Hid (Cs w (.pointer (some pa)) N T F s G W) := h
  have HO1 : Hid ((stp N T F s m).2.length ≤ 1) := stp_few N T F s m
  generalize (stp N T F s m).1 = s2 at *
  generalize (stp N T F s m).2 = O at *
  have HQ : Hid (W.ownsRow 0 38 3 (.slice a k c) O.length (mcs O)) := hq
  have HQb : Hid (∀ b, Value.ownBlock (.slice a k c) = some b → ¬ G b) := hqb
  have HX0 : Hid (Ext W (W.alloc (.cells #[.int .i64 m.kd, .int .i64 m.fr, .string m.bd] 38))) := (Ext.refl W).alloc _
  obtain ⟨ol, Hol⟩ : ∃ ol, Hid (O.length = ol) := ⟨_, rfl⟩
  rw [Hol.out] at HTk
  clear hq hqb h hl
  go_enter Try.func15, Try.ntmps15
  go_wp2_with fail
  refine (HTk.out _ (HS.out.ext HX0.out)).mono ?_
  rintro e w1 ⟨a1, c1, rfl, ho, hs1, hg1⟩
  have HS1 : Hid (Cs w (.pointer (some pa)) N T F s2 G w1) := hs1
  have HG1 : Hid (Chg G W w1) := (Chg.of_ext G HX0.out).trans hg1 (Sub.refl _ _)
  have HM1 : Hid (MsIs w1 (.slice a1 ol c1) O) := by rw [← Hol.out] at ho ⊢; exact own_ms ho
  have HM2 : Hid (MsIs w1 (.slice a k c) O) := own_ms (own_keep HQ.out (fun b z => HG1.out.block b (HQ.out.lt b z).2 (HQb.out b z)))
  clear ho hs1 hg1 HTk HS HQ HQb
  go_wp2_with fail
  refine (rcasts_any _ _ O (by have := HO1.out; omega) _ HM1.out HM2.out).mono ?_
  rintro e w2 ⟨rfl, HX⟩
  have HS2 : Hid (Cs w (.pointer (some pa)) N T F s2 G w2) := HS1.out.ext HX
  have HG2 : Hid (Chg G W w2) := HG1.out.thenExt HX
  clear HX HS1 HG1 HM1 HM2
  go_wp2_with fail
  refine (ltold_any HS2.out).mono ?_
  rintro e w3 ⟨rfl, HX⟩
  have HS3 : Hid (Cs w (.pointer (some pa)) N T F s2 G w3) := HS2.out.ext HX
  have HG3 : Hid (Chg G W w3) := HG2.out.thenExt HX
  clear HX HS2 HG2
  go_wp2
  refine bodyPost_ret (v := .tuple #[.string (s2.tb.getD ⟨#[]⟩), .bool true]) (by simp [results, Try.results15, go_sem]) rfl ⟨rfl, HS3.out, HG3.out⟩
/-- A part of the definition, of a state. -/
abbrev cst (N T F : Nat) (u : Value) (s : St) (j : Nat) : Value := cr N T F u s.rb.isSome s.tb.isSome (s.tb.getD ⟨#[]⟩) j
/-- A part made since w, beside a variable of the law's in block xb: the definition's, its messages the row u. -/
structure PV (w : World) (pa : Addr) (N T F : Nat) (s : St) (G : Nat → Prop) (xb : Nat) (u : Value) (wr : World) : Prop where
  cs : Cs w (.pointer (some pa)) N T F s G wr
  hx : Blk wr xb 7 (cst N T F u s)
  hu : wr.ownsRow 0 38 3 u s.L.length (mcs s.L)
  ub : ∀ b, u.ownBlock = some b → ¬ G b ∧ b ≠ xb
  gx : ¬ G xb
  fx : w.heap.size ≤ xb
/-- And beside it the next state of it in block yb, and what is said: the row q. -/
structure Mid (w : World) (pa : Addr) (N T F : Nat) (s : St) (G : Nat → Prop) (xb : Nat) (u : Value) (s2 : St) (O : List Msg) (yb : Nat) (u2 q : Value) (wr : World) : Prop where
  pv : PV w pa N T F s G xb u wr
  hy : Blk wr yb 7 (cst N T F u2 s2)
  hu : wr.ownsRow 0 38 3 u2 s2.L.length (mcs s2.L)
  ub : ∀ b, u2.ownBlock = some b → ¬ G b ∧ b ≠ xb ∧ b ≠ yb
  hq : wr.ownsRow 0 38 3 q O.length (mcs O)
  qb : ∀ b, q.ownBlock = some b → ¬ G b ∧ b ≠ xb ∧ b ≠ yb
  gy : ¬ G yb
  yx : yb ≠ xb
section
variable {w W : World} {pa : Addr} {N T F : Nat} {s s2 : St} {G : Nat → Prop} {xb yb : Nat} {u u2 q : Value} {O : List Msg}
theorem PV.ext {wy : World} (h : PV w pa N T F s G xb u W) (hx : Ext W wy) : PV w pa N T F s G xb u wy := ⟨h.cs.ext hx, h.hx.ext hx, own_ext h.hu hx, h.ub, h.gx, h.fx⟩
theorem PV.put (h : PV w pa N T F s G xb u W) (b : Nat) (hg : ¬ G b) (hx : b ≠ xb) (hb : w.heap.size ≤ b) (hu : u.ownBlock ≠ some b) (i : Nat) (v : Value) : PV w pa N T F s G xb u (W.setCell ⟨b, i, none⟩ v) :=
  ⟨h.cs.far (H := fun k => k = b) (Chg.st (.inl rfl) (Chg.refl _ W)) (fun k q1 q2 => hg (q2 ▸ q1)) (fun k q => by rw [q]; exact hb), h.hx.st hx.symm, own_setCell h.hu hu, h.ub, h.gx, h.fx⟩
theorem PV.set7 (h : PV w pa N T F s G xb u W) {b : Nat} (hg : ¬ G b) (hx : b ≠ xb) (hb : w.heap.size ≤ b) (hu : u.ownBlock ≠ some b) (v0 v1 v2 v3 v4 v5 v6 : Value) : PV w pa N T F s G xb u (put7 W b v0 v1 v2 v3 v4 v5 v6) :=
  ((((((h.put b hg hx hb hu 0 v0).put b hg hx hb hu 1 v1).put b hg hx hb hu 2 v2).put b hg hx hb hu 3 v3).put b hg hx hb hu 4 v4).put b hg hx hb hu 5 v5).put b hg hx hb hu 6 v6
theorem chg7 {b : Nat} {v0 v1 v2 v3 v4 v5 v6 : Value} : Chg (fun k => k = b) W (put7 W b v0 v1 v2 v3 v4 v5 v6) :=
  Chg.st (F := fun k => k = b) (.inl rfl) (Chg.st (F := fun k => k = b) (.inl rfl) (Chg.st (F := fun k => k = b) (.inl rfl) (Chg.st (F := fun k => k = b) (.inl rfl) (Chg.st (F := fun k => k = b) (.inl rfl) (Chg.st (F := fun k => k = b) (.inl rfl) (Chg.st (F := fun k => k = b) (.inl rfl) (Chg.refl _ W)))))))
/-- The next state is set into a new block. -/
theorem PV.mid (h : PV w pa N T F s G xb u W) {g : Nat → Value} (hy : Blk W yb 7 g) (hn : ¬ G yb) (hyx : yb ≠ xb) (hb : w.heap.size ≤ yb) (huy : u.ownBlock ≠ some yb) (hu2 : W.ownsRow 0 38 3 u2 s2.L.length (mcs s2.L)) (ub2 : ∀ b, u2.ownBlock = some b → ¬ G b ∧ b ≠ xb ∧ b ≠ yb) (hq : W.ownsRow 0 38 3 q O.length (mcs O)) (qb : ∀ b, q.ownBlock = some b → ¬ G b ∧ b ≠ xb ∧ b ≠ yb) :
    Mid w pa N T F s G xb u s2 O yb u2 q (put7 W yb (.int .i64 (N : Int)) (.int .i64 (T : Int)) (.int .i64 (F : Int)) u2 (.bool s2.rb.isSome) (.bool s2.tb.isSome) (.string (s2.tb.getD ⟨#[]⟩))) :=
  ⟨h.set7 hn hyx hb huy _ _ _ _ _ _ _, put7_blk hy, put7_own hu2 (fun z => (ub2 _ z).2.2 rfl), ub2, put7_own hq (fun z => (qb _ z).2.2 rfl), qb, hn, hyx⟩
/-- The variable becomes the next state; the part is still behind. -/
structure Nxt (w : World) (pa : Addr) (N T F : Nat) (s : St) (G : Nat → Prop) (xb : Nat) (s2 : St) (O : List Msg) (u2 q : Value) (wr : World) : Prop where
  cs : Cs w (.pointer (some pa)) N T F s G wr
  hx : Blk wr xb 7 (cst N T F u2 s2)
  hu : wr.ownsRow 0 38 3 u2 s2.L.length (mcs s2.L)
  ub : ∀ b, u2.ownBlock = some b → ¬ G b ∧ b ≠ xb
  hq : wr.ownsRow 0 38 3 q O.length (mcs O)
  qb : ∀ b, q.ownBlock = some b → ¬ G b
  gx : ¬ G xb
  fx : w.heap.size ≤ xb
theorem Mid.next (h : Mid w pa N T F s G xb u s2 O yb u2 q W) : Nxt w pa N T F s G xb s2 O u2 q (put7 W xb (.int .i64 (N : Int)) (.int .i64 (T : Int)) (.int .i64 (F : Int)) u2 (.bool s2.rb.isSome) (.bool s2.tb.isSome) (.string (s2.tb.getD ⟨#[]⟩))) :=
  ⟨h.pv.cs.far (H := fun k => k = xb) chg7 (fun k q1 q2 => h.pv.gx (q2 ▸ q1)) (fun k q => by rw [q]; exact h.pv.fx), put7_blk h.pv.hx, put7_own h.hu (fun z => (h.ub _ z).2.1 rfl), fun b z => ⟨(h.ub b z).1, (h.ub b z).2.1⟩, put7_own h.hq (fun z => (h.qb _ z).2.1 rfl), fun b z => (h.qb b z).1, h.pv.gx, h.pv.fx⟩
theorem Nxt.far {wy : World} (h : Nxt w pa N T F s G xb s2 O u2 q W) (hg : Chg G W wy) (hc : Cs w (.pointer (some pa)) N T F s2 G wy) : PV w pa N T F s2 G xb u2 wy :=
  ⟨hc, h.hx.keep hg.size (hg.block xb h.hx.1 h.gx), own_keep h.hu (fun k z => hg.block k (h.hu.lt k z).2 (h.ub k z).1), h.ub, h.gx, h.fx⟩
end
end Go.Proofs.Ytmibekclhnkhnaa

/-
 The document's part: Take, called: what its loop keeps.
-/
import Derived.Test.YtmanacbdldfmfaaRe
namespace Go.Proofs.Ytmanacbdldfmfaa
open Go.RowKit
set_option maxRecDepth 10000
theorem rule_lenR {p : Pm} {s : Ag} {x : Ag × List Vt} (e : ruleA p s = some x) : x.2.length ≤ 1 := by
 rcases rule_case e with q | q | q | q | q
 ·rw [(r1_done q).2]; simp
 ·exact (dn2 q.2).2
 ·exact (dn3 q.2).2
 ·exact (dn5 q.2).2
 ·exact (dn6 q.2).2
/-- A row as a loop may lean on it: it lies below B, and it is none of two blocks. -/
def ApartB (g0 g1 B : Nat) (u : Value) : Prop := ∀ k, u.ownBlock = some k → k < B ∧ k ≠ g0 ∧ k ≠ g1
/-- While the definition's rules apply. -/
structure TL (w : World) (g0 g1 B : Nat) (p : Pm) (s1 : Ag) (o0 : List Vt) (a1 : Option Addr) (c1 : Nat) (a2 : Option Addr) (c2 : Nat) (kk : Nat) (s' : Ag) (out : List Vt) (u : Value) (wr : World) : Prop where
 r2 : R2 w g0 #[.int .i64 p.me, .int .i64 p.ht, .string p.own, .int .i64 s'.rd, .int .i64 s'.st, .string s'.lk, .int .i64 s'.lr, .string s'.vv, .int .i64 s'.vr, .slice a1 s1.ps.length c1, .int .i64 (p.n : Int), .int .i64 (p.t : Int), .slice a2 s1.vs.length c2, .bool (fiveA s'), .bool s'.dn, .string s'.dc] g1 wr
 inv : InvA p s'
 rd : 0 ≤ s'.rd
 ps : s'.ps = s1.ps
 vs : s'.vs = s1.vs
 e1 : (stl p s1).1 = (stl p s').1
 e2 : o0 ++ (stl p s1).2 = out ++ (stl p s').2
 o1 : wr.ownsRow 0 39 5 (.slice a1 s1.ps.length c1) s1.ps.length (wcs s1.ps)
 o2 : wr.ownsRow 0 39 5 (.slice a2 s1.vs.length c2) s1.vs.length (wcs s1.vs)
 ou : wr.ownsRow B 39 5 u out.length (wcs out)
 len : out.length + mu s' ≤ 1000
 kk : kk + mu s' ≤ 300
 b1 : ApartB g0 g1 B (.slice a1 s1.ps.length c1)
 b2 : ApartB g0 g1 B (.slice a2 s1.vs.length c2)
 bg : g0 < B ∧ g1 < B
 bs : B ≤ wr.heap.size
 wB : w.heap.size ≤ B
section
variable {w wr wx : World} {g0 g1 B : Nat} {p : Pm} {s1 s' : Ag} {o0 out : List Vt} {a1 : Option Addr} {c1 : Nat} {a2 : Option Addr} {c2 kk : Nat} {u : Value}
theorem TL.ext (h : TL w g0 g1 B p s1 o0 a1 c1 a2 c2 kk s' out u wr) (hx : Ext wr wx) : TL w g0 g1 B p s1 o0 a1 c1 a2 c2 kk s' out u wx :=
 ⟨h.r2.further hx, h.inv, h.rd, h.ps, h.vs, h.e1, h.e2, own_ext h.o1 hx, own_ext h.o2 hx, own_ext h.ou hx, h.len, h.kk, h.b1, h.b2, h.bg, Nat.le_trans h.bs hx.size, h.wB⟩
/-- The part's row is set. -/
theorem TL.set {W' : World} {x : Ag × List Vt} (h : TL w g0 g1 B p s1 o0 a1 c1 a2 c2 kk s' out u wr) (hd : s'.dn = false) (hr : ruleA p s' = some x) (hR : R2 w g0 #[.int .i64 p.me, .int .i64 p.ht, .string p.own, .int .i64 x.1.rd, .int .i64 x.1.st, .string x.1.lk, .int .i64 x.1.lr, .string x.1.vv, .int .i64 x.1.vr, .slice a1 s1.ps.length c1, .int .i64 (p.n : Int), .int .i64 (p.t : Int), .slice a2 s1.vs.length c2, .bool (fiveA x.1), .bool x.1.dn, .string x.1.dc] g1 W') (hK : (∀ k, k ≠ g0 → W'.heap[k]? = wr.heap[k]?) ∧ W'.heap.size = wr.heap.size) {u' : Value} {W'' : World} (ho : W''.ownsRow B 39 5 u' (out.length + x.2.length) (wcs out ++ wcs x.2)) (hg : W'.grownBy W'' u.ownBlock) : TL w g0 g1 B p s1 o0 a1 c1 a2 c2 (kk + 1) x.1 (out ++ x.2) u' W'' := by
 have q := step_rule h.inv h.rd hd hr
 have l := rule_lenR hr
 obtain ⟨y, o⟩ := x
 have e2 := stl_some h.inv h.rd hd hr
 have m1 := q.mu
 have nb : ∀ k, u.ownBlock = some k → B ≤ k := fun k z => (h.ou.lt k z).1
 have n0 : u.ownBlock ≠ some g0 := fun z => by have := nb _ z; have := h.bg.1; omega
 have n1 : u.ownBlock ≠ some g1 := fun z => by have := nb _ z; have := h.bg.2; omega
 obtain ⟨z, hz, hzb⟩ := hR.b1
 have lt0 : g0 < W'.heap.size := (Array.getElem?_eq_some_iff.1 hR.b0).1
 have lt1 : g1 < W'.heap.size := (Array.getElem?_eq_some_iff.1 hzb).1
 have keep : ∀ (v : Value) (n : Nat) (xs : List Value), ApartB g0 g1 B v → wr.ownsRow 0 39 5 v n xs → W''.ownsRow 0 39 5 v n xs := fun v n xs ha hv => own_keep (own_keep hv (fun k qk => hK.1 k (ha k qk).2.1)) (fun k qk => hg.block k (by rw [hK.2]; exact (hv.lt k qk).2) (fun zz => by have := nb k zz.symm; have := (ha k qk).1; omega))
 refine ⟨⟨Chg.ext hR.ext (fun k qk => Nat.le_trans h.wB (nb k qk)) ((Chg.refl _ W').grown hg (fun k qk => .inl qk)), (hg.block g0 lt0 (fun zz => n0 zz.symm)).trans hR.b0, ⟨z, hz, (hg.block g1 lt1 (fun zz => n1 zz.symm)).trans hzb⟩, hR.l0, hR.l1, hR.ne⟩, q.inv, q.rd, q.ps.trans h.ps, q.vs.trans h.vs, by rw [h.e1, e2], by rw [h.e2, e2, List.append_assoc], keep _ _ _ h.b1 h.o1, keep _ _ _ h.b2 h.o2, by rw [wcs_app, List.length_append]; exact ho, ?_, ?_, h.b1, h.b2, h.bg, ?_, h.wB⟩
 ·have := h.len
  rw [List.length_append]
  dsimp only at *
  omega
 ·have := h.kk
  dsimp only at *
  omega
 ·have := h.bs
  have := hg.size
  have := hK.2
  omega
end
/-- What the definition's Take leaves. -/
def RTk (p : Pm) (s' : Ag) (o : List Vt) (u1 u2 : Value) (w : World) (e : Ending) (w' : World) : Prop := ∃ a1 c1 a2 c2 a n c, e = .returned (.tuple #[av p s' a1 s'.ps.length c1 a2 s'.vs.length c2, .slice a n c]) ∧ w'.ownsRow 0 39 5 (.slice a1 s'.ps.length c1) s'.ps.length (wcs s'.ps) ∧ w'.ownsRow 0 39 5 (.slice a2 s'.vs.length c2) s'.vs.length (wcs s'.vs) ∧ w'.ownsRow w.heap.size 39 5 (.slice a n c) o.length (wcs o) ∧ Ext w w' ∧ (∀ k, (Value.slice a1 s'.ps.length c1).ownBlock = some k → u1.ownBlock = some k ∨ w.heap.size ≤ k) ∧ ∀ k, (Value.slice a2 s'.vs.length c2).ownBlock = some k → u2.ownBlock = some k ∨ w.heap.size ≤ k
end Go.Proofs.Ytmanacbdldfmfaa

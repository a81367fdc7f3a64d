/-
 sandglassref16.Words over the same words; a part beside the document's; AgreePlays.
-/
import Derived.Test.YtmanacbdldfmfaaRi
import Derived.Test.YtmanacbdldfmfaaLc
namespace Go.Proofs.Ytmanacbdldfmfaa
open Go.RowKit
set_option maxRecDepth 10000
set_option maxHeartbeats 4000000 in
theorem words_any (u v : Value) (L : List Vt) (hn : L.length ≤ 100000) (w : World) (hu : WsIs w u L) (hv : WsIs w v L) : Calls Try.prog 16 #[u, v] w fun e w' => e = .returned (.bool true) ∧ Ext w w' := by
 have HU0 : Hid (WsIs w u L) := hu
 have HV0 : Hid (WsIs w v L) := hv
 obtain ⟨a, cap, rfl, _⟩ := hu
 obtain ⟨a2, cap2, rfl, _⟩ := hv
 have HE0 : Hid (Ext w w) := Ext.refl w
 obtain ⟨n, HN⟩ : ∃ n, Hid (L.length = n) := ⟨_, rfl⟩
 have HU := HU0
 have HV := HV0
 rw [HN.out] at HU HV hn ⊢
 clear HU0 HV0
 have Hn : Hid (n ≤ 100000) := hn
 have hne : ((n : Int) != (n : Int)) = false := by simp
 clear hn
 go_enter Try.func16, Try.ntmps16
 go_wp2_with fail
 go_loopw [5] (fun u5 wr => ∃ j : Nat, j ≤ n ∧ u5 = .int .i64 j ∧ Hid (Ext w wr)) (fun u5 _ => n - (intOf u5).toNat)
 case atStart => exact ⟨0, Nat.zero_le _, rfl, HE0⟩
 case round =>
  obtain ⟨j, hk, rfl, HE⟩ := hrel
  clear HE0
  by_cases hlt : j < n
  ·obtain ⟨q1, q0, qw⟩ := lp_nums j n hlt (by have := Hn.out; omega)
   obtain ⟨m, hm⟩ : ∃ m, L[j]? = some m := ⟨L[j]'(by rw [HN.out]; exact hlt), List.getElem?_eq_getElem _⟩
   have HU2 : WsIs wr (.slice a L.length cap) L := by rw [HN.out]; exact HU.out.ext HE.out
   have HV2 : WsIs wr (.slice a2 L.length cap2) L := by rw [HN.out]; exact HV.out.ext HE.out
   obtain ⟨g, o, rfl, hbl, hd0, hd1, hd2, hd3, hd4⟩ := HU2.get hm
   obtain ⟨g2, o2, rfl, hbl2, he0, he1, he2, he3, he4⟩ := HV2.get hm
   have HRq : Hid (∀ q, Ext w (wr.drewN q)) := fun q => HE.out.trans ((Ext.refl wr).drewN q)
   have t1 := beq_self_eq_true m.vl.toList
   clear HU2 HV2 hm
   go_wp2_with fail
   go_quiet (fail)
   go_wp2_with fail
   go_roundw
   case rel => exact ⟨j + 1, hlt, by push_cast; rfl, HRq.out _⟩
   case measure => exact lp_meas hlt
  ·obtain rfl : j = n := by omega
   have hnl : ¬ (j : Int) < (j : Int) := by omega
   go_wp2_with fail
   go_ret
   exact ⟨rfl, HE.out⟩
end Go.Proofs.Ytmanacbdldfmfaa
namespace Go.Proofs.Ytmanacbdldfmfaa
open Go.RowKit
set_option maxRecDepth 10000
/-- The cells of the document's part. -/
abbrev cz (p : Pm) (t : Ag) (a1 : Option Addr) (c1 : Nat) (a2 : Option Addr) (c2 : Nat) : Array Value := #[.int .i64 p.me, .int .i64 p.ht, .string p.own, .int .i64 t.rd, .int .i64 t.st, .string t.lk, .int .i64 t.lr, .string t.vv, .int .i64 t.vr, .slice a1 t.ps.length c1, .int .i64 (p.n : Int), .int .i64 (p.t : Int), .slice a2 t.vs.length c2, .bool (fiveA t), .bool t.dn, .string t.dc]
/-- A row lies off a part's blocks, and off a box. -/
def Off (G : Nat → Prop) (g : Nat) (v : Value) : Prop := ∀ k, v.ownBlock = some k → ¬ G k ∧ k ≠ g
/-- A part, and a box beside it, the document's rows, and what the document's part said. -/
def PZ (w : World) (b g6 : Nat) (p : Pm) (s t : Ag) (a1 : Option Addr) (c1 : Nat) (a2 : Option Addr) (c2 : Nat) (z : Array Value) (o : List Vt) (v : Value) (W : World) : Prop :=
 (∃ vp G, AB W b p s vp .nilFunc G ∧ From G w.heap.size ∧ ¬ G g6 ∧ Off G g6 (.slice a1 t.ps.length c1) ∧ Off G g6 (.slice a2 t.vs.length c2) ∧ Off G g6 v) ∧ Ext w W ∧ W.heap[g6]? = some (.cells z 34 (0, 0)) ∧ z.size = 16 ∧ w.heap.size ≤ g6 ∧
  W.ownsRow 0 39 5 (.slice a1 t.ps.length c1) t.ps.length (wcs t.ps) ∧ W.ownsRow 0 39 5 (.slice a2 t.vs.length c2) t.vs.length (wcs t.vs) ∧ W.ownsRow 0 39 5 v o.length (wcs o)
section
variable {w W W' W1 : World} {b g6 : Nat} {p : Pm} {s t : Ag} {a1 : Option Addr} {c1 : Nat} {a2 : Option Addr} {c2 : Nat} {z : Array Value} {o : List Vt} {v : Value}
theorem PZ.ext (h : PZ w b g6 p s t a1 c1 a2 c2 z o v W) (hx : Ext W W') : PZ w b g6 p s t a1 c1 a2 c2 z o v W' := by
 obtain ⟨⟨vp, G, h1, h2, h3⟩, h6, h7, hz, h8, h9, h10, h11⟩ := h
 exact ⟨⟨vp, G, h1.ext hx, h2, h3⟩, h6.trans hx, (Below.block hx g6 (Array.getElem?_eq_some_iff.1 h7).1).trans h7, hz, h8, own_ext h9 hx, own_ext h10 hx, own_ext h11 hx⟩
theorem PZ.old (h : PZ w b g6 p s t a1 c1 a2 c2 z o v W) : Ext w W := h.2.1
theorem PZ.box (h : PZ w b g6 p s t a1 c1 a2 c2 z o v W) : W.heap[g6]? = some (.cells z 34 (0, 0)) ∧ z.size = 16 := ⟨h.2.2.1, h.2.2.2.1⟩
theorem PZ.ws (h : PZ w b g6 p s t a1 c1 a2 c2 z o v W) : W.ownsRow 0 39 5 v o.length (wcs o) := h.2.2.2.2.2.2.2
theorem PZ.lw (h : PZ w b g6 p s t a1 c1 a2 c2 z o v W) : LW w b p s [] (.slice none 0 0) W := by
 obtain ⟨⟨vp, G, h1, h2, _⟩, h6, _⟩ := h
 exact ⟨vp, G, h1, h2, h6, World.ownsRow_nil _ _ _ _, fun k q => by cases q⟩
/-- The box is set. -/
theorem PZ.put (h : PZ w b g6 p s t a1 c1 a2 c2 z o v W) (cs : Array Value) (hs : cs.size = 16) : PZ w b g6 p s t a1 c1 a2 c2 cs o v (W.setRow g6 cs) := by
 obtain ⟨⟨vp, G, h1, h2, h3, h4, h5, h5'⟩, h6, h7, hz, h8, h9, h10, h11⟩ := h
 have sz : (W.setRow g6 cs).heap.size = W.heap.size := by simp [World.setRow]
 exact ⟨⟨vp, G, h1.keep (Nat.le_of_eq sz.symm) (fun k q => setRow_other W g6 k cs (fun e => h3 (e ▸ q))), h2, h3, h4, h5, h5'⟩, h6.row h8 cs, setRow_heap W g6 _ cs 34 (0, 0) h7, hs, h8, own_keep h9 (fun k q => setRow_other W g6 k cs (h4 k q).2), own_keep h10 (fun k q => setRow_other W g6 k cs (h5 k q).2), own_keep h11 (fun k q => setRow_other W g6 k cs (h5' k q).2)⟩
/-- A part is beside a new box. -/
theorem PZ.new (h : LW w b p s [] (.slice none 0 0) W) (cs : Array Value) (hs : cs.size = 16) (hp : t.ps = []) (hv : t.vs = []) : PZ w b W.heap.size p s t none 0 none 0 cs [] (.slice none 0 0) (W.alloc (.cells cs 34)) := by
 obtain ⟨vp, G, h1, h2, h3, _⟩ := h
 have nl : ∀ n, Off G W.heap.size (.slice none n 0) := fun n k q => by cases q
 refine ⟨⟨vp, G, h1.ext ((Ext.refl W).alloc _), h2, fun q => Nat.lt_irrefl _ (h1.lt _ q), nl _, nl _, nl _⟩, h3.alloc _, heap_alloc_new W _, hs, h3.size, ?_, ?_, World.ownsRow_nil _ _ _ _⟩
 ·rw [hp]; exact World.ownsRow_nil _ _ _ _
 ·rw [hv]; exact World.ownsRow_nil _ _ _ _
/-- What the part did. -/
theorem PZ.tk {G : Nat → Prop} {vp : Value} {s' : Ag} {e : Ending} {u : List Vt} (_h1 : AB W b p s vp .nilFunc G) (h2 : From G w.heap.size) (h3 : ¬ G g6) (h4 : Off G g6 (.slice a1 t.ps.length c1)) (h5 : Off G g6 (.slice a2 t.vs.length c2)) (h5' : Off G g6 v) (h6 : Ext w W) (h7 : W.heap[g6]? = some (.cells z 34 (0, 0))) (hz : z.size = 16) (h8 : w.heap.size ≤ g6) (h9 : W.ownsRow 0 39 5 (.slice a1 t.ps.length c1) t.ps.length (wcs t.ps)) (h10 : W.ownsRow 0 39 5 (.slice a2 t.vs.length c2) t.vs.length (wcs t.vs)) (h11 : W.ownsRow 0 39 5 v o.length (wcs o)) (q : TkP b p s' u G W e W') : ∃ a n c, e = .returned (.slice a n c) ∧ PZ w b g6 p s' t a1 c1 a2 c2 z o v W' ∧ W'.ownsRow 0 39 5 (.slice a n c) u.length (wcs u) := by
 obtain ⟨x, vp', G', rfl, q1, q2, q3, q4, q5⟩ := q
 obtain ⟨a, c, rfl⟩ := own_len q4
 have l6 := (Array.getElem?_eq_some_iff.1 h7).1
 have off : ∀ k, k < W.heap.size → ¬ G k → ¬ G' k := fun k hk hg z => by
  rcases q2 k z with e | e
  ·exact hg e
  ·omega
 exact ⟨a, _, c, rfl, ⟨⟨vp', G', q1, q2.from h2 h6.size, off g6 l6 h3, fun k z => ⟨off k (h9.lt k z).2 (h4 k z).1, (h4 k z).2⟩, fun k z => ⟨off k (h10.lt k z).2 (h5 k z).1, (h5 k z).2⟩, fun k z => ⟨off k (h11.lt k z).2 (h5' k z).1, (h5' k z).2⟩⟩, Chg.ext h6 h2 q3, (q3.block g6 l6 h3).trans h7, hz, h8, own_keep h9 (fun k z => q3.block k (h9.lt k z).2 (h4 k z).1), own_keep h10 (fun k z => q3.block k (h10.lt k z).2 (h5 k z).1), own_keep h11 (fun k z => q3.block k (h11.lt k z).2 (h5' k z).1)⟩, own_base q4 (Nat.zero_le _)⟩
/-- The part takes a word. -/
theorem ptake_any (m : Vt) (hp : okP p) (hi : InvA p s) (hq : 0 ≤ s.rd → Quiet p s) (hl : s.vs.length ≤ 1000) (hrw : (Lit.int .i64 m.rd).wf = true) (h : PZ w b g6 p s t a1 c1 a2 c2 z o v W) : Calls Try.prog 14 #[.pointer (some ⟨b, 0, none⟩), wv m] W fun e w' => ∃ a n c, e = .returned (.slice a n c) ∧ PZ w b g6 p (takeA p s m).1 t a1 c1 a2 c2 z o v w' ∧ w'.ownsRow 0 39 5 (.slice a n c) (takeA p s m).2.length (wcs (takeA p s m).2) := by
 obtain ⟨⟨vp, G, h1, h2, h3, h4, h5, h5'⟩, h6, h7, hz, h8, h9, h10, h11⟩ := h
 exact (take_any m hp hi hq hl hrw h1).mono fun e w' q => PZ.tk h1 h2 h3 h4 h5 h5' h6 h7 hz h8 h9 h10 h11 q
/-- It is started. -/
theorem pstart_any (hp : okP p) (hi : InvA p s) (h : PZ w b g6 p s t a1 c1 a2 c2 z o v W) : Calls Try.prog 17 #[.pointer (some ⟨b, 0, none⟩)] W fun e w' => ∃ a n c, e = .returned (.slice a n c) ∧ PZ w b g6 p (startA p s).1 t a1 c1 a2 c2 z o v w' ∧ w'.ownsRow 0 39 5 (.slice a n c) (startA p s).2.length (wcs (startA p s).2) := by
 obtain ⟨⟨vp, G, h1, h2, h3, h4, h5, h5'⟩, h6, h7, hz, h8, h9, h10, h11⟩ := h
 exact (start_any hp hi h1).mono fun e w' q => PZ.tk h1 h2 h3 h4 h5 h5' h6 h7 hz h8 h9 h10 h11 q
/-- What the document's part leaves beside it. -/
def PZk (w : World) (b g6 : Nat) (p : Pm) (s t : Ag) (z : Array Value) (o : List Vt) (W W1 : World) (e : Ending) (w' : World) : Prop := ∃ a1 c1 a2 c2 a n c, e = .returned (.tuple #[.agg (cz p t a1 c1 a2 c2), .slice a n c]) ∧ PZ w b g6 p s t a1 c1 a2 c2 z o (.slice a n c) w' ∧ Ext W1 w' ∧ ∀ g cs, W.heap.size ≤ g → g < W1.heap.size → PZ w b g6 p s t a1 c1 a2 c2 z o (.slice a n c) (w'.setRow g cs)
theorem PZ.ref {t' : Ag} {o' : List Vt} {b1 : Option Addr} {d1 : Nat} {b2 : Option Addr} {d2 n d : Nat} {x : Option Addr} (h : PZ w b g6 p s t a1 c1 a2 c2 z o v W) (hx : Ext W W1) (q1 : W'.ownsRow 0 39 5 (.slice b1 t'.ps.length d1) t'.ps.length (wcs t'.ps)) (q2 : W'.ownsRow 0 39 5 (.slice b2 t'.vs.length d2) t'.vs.length (wcs t'.vs)) (q3 : W'.ownsRow W1.heap.size 39 5 (.slice x n d) o'.length (wcs o')) (q4 : Ext W1 W') (q5 : ∀ k, (Value.slice b1 t'.ps.length d1).ownBlock = some k → (Value.slice a1 t.ps.length c1).ownBlock = some k ∨ W1.heap.size ≤ k) (q6 : ∀ k, (Value.slice b2 t'.vs.length d2).ownBlock = some k → (Value.slice a2 t.vs.length c2).ownBlock = some k ∨ W1.heap.size ≤ k) : PZk w b g6 p s t' z o' W W1 (.returned (.tuple #[.agg (cz p t' b1 d1 b2 d2), .slice x n d])) W' := by
 obtain ⟨⟨vp, G, h1, h2, h3, h4, h5, h5'⟩, h6, h7, hz, h8, h9, h10, h11⟩ := h
 have l6 := (Array.getElem?_eq_some_iff.1 h7).1
 have s1 := hx.size
 have f1 : Off G g6 (.slice b1 t'.ps.length d1) := fun k q => by
  rcases q5 k q with e | e
  ·exact h4 k e
  ·exact ⟨fun g => by have := h1.lt k g; omega, by omega⟩
 have f2 : Off G g6 (.slice b2 t'.vs.length d2) := fun k q => by
  rcases q6 k q with e | e
  ·exact h5 k e
  ·exact ⟨fun g => by have := h1.lt k g; omega, by omega⟩
 have f3 : Off G g6 (.slice x n d) := fun k q => by
  have := (q3.lt k q).1
  exact ⟨fun g => by have := h1.lt k g; omega, by omega⟩
 have P : PZ w b g6 p s t' b1 d1 b2 d2 z o' (.slice x n d) W' := ⟨⟨vp, G, h1.ext (hx.trans q4), h2, h3, f1, f2, f3⟩, h6.trans (hx.trans q4), (Below.block (hx.trans q4) g6 l6).trans h7, hz, h8, q1, q2, own_base q3 (Nat.zero_le _)⟩
 refine ⟨b1, d1, b2, d2, x, n, d, rfl, P, q4, fun g cs hg1 hg2 => ?_⟩
 obtain ⟨_, r6, r7, _⟩ := P
 have sz : (W'.setRow g cs).heap.size = W'.heap.size := by simp [World.setRow]
 refine ⟨⟨vp, G, (h1.ext (hx.trans q4)).keep (Nat.le_of_eq sz.symm) (fun k q => setRow_other W' g k cs (fun e => by have := h1.lt k q; omega)), h2, h3, f1, f2, f3⟩, r6.row (Nat.le_trans h6.size hg1) cs, (setRow_other W' g g6 cs (by omega)).trans r7, hz, h8, own_keep q1 (fun k q => setRow_other W' g k cs ?_), own_keep q2 (fun k q => setRow_other W' g k cs ?_), own_base (own_keep q3 (fun k q => setRow_other W' g k cs (by have := (q3.lt k q).1; omega))) (Nat.zero_le _)⟩
 ·rcases q5 k q with e | e
  ·have := (h9.lt k e).2; omega
  ·omega
 ·rcases q6 k q with e | e
  ·have := (h10.lt k e).2; omega
  ·omega
/-- The document's part takes a word. -/
theorem rtk_any (m : Vt) (hp : okP p) (hi : InvA p t) (hn : t.ps.length + t.vs.length ≤ 500) (h : PZ w b g6 p s t a1 c1 a2 c2 z o v W) (hx : Ext W W1) : Calls Try.prog 18 #[.agg (cz p t a1 c1 a2 c2), wv m] W1 fun e w' => PZk w b g6 p s (takeA p t m).1 z (takeA p t m).2 W W1 e w' := by
 refine (rtake_any p t m hp hi a1 c1 a2 c2 hn W1 (own_ext h.2.2.2.2.2.1 hx) (own_ext h.2.2.2.2.2.2.1 hx)).mono fun e w' q => ?_
 obtain ⟨b1, d1, b2, d2, x, n, d, rfl, q1, q2, q3, q4, q5, q6⟩ := q
 exact h.ref hx q1 q2 q3 q4 q5 q6
/-- It is started. -/
theorem rst_any (h0 : ¬ 0 ≤ t.rd) (hv : t.vr < 0) (ep : (startA p t).1.ps = t.ps) (ev : (startA p t).1.vs = t.vs) (h : PZ w b g6 p s t a1 c1 a2 c2 z o v W) : Calls Try.prog 15 #[.agg (cz p t a1 c1 a2 c2)] W fun e w' => PZk w b g6 p s (startA p t).1 z (startA p t).2 W W e w' := by
 refine (rstart_any p t a1 t.ps.length c1 a2 t.vs.length c2 h0 hv W).mono fun e w' q => ?_
 obtain ⟨x, n, d, rfl, q1, q2⟩ := q
 have r1 := own_ext h.2.2.2.2.2.1 q2
 have r2 := own_ext h.2.2.2.2.2.2.1 q2
 rw [← ep] at r1
 rw [← ev] at r2
 have := h.ref (t' := (startA p t).1) (Ext.refl W) r1 r2 q1 q2 (fun k q => .inl (by rw [ep] at q; exact q)) (fun k q => .inl (by rw [ev] at q; exact q))
 rw [← ep, ← ev]
 exact this
end
/-- A store into a box, an operation a step. -/
theorem wl_put {ops : Array Oper} {rest : List Oper} {o : Oper} {a : Act} {W : World} {Q : Exit → Act → World → Prop} {x y : Operand} (hgd : o.guard = none) (ho : o.op = .store 34 x y) {g : Nat} {cs' z : Array Value} (hx : a.eval x = .pointer (some ⟨g, 0, none⟩)) (hy : a.eval y = .agg cs') (hg : W.heap[g]? = some (.cells z 34 (0, 0))) (hz : z.size = 16) (hs : cs'.size = 16) (h1 : cs'.all (·.oneCell') = true)
  (h : wpList Try.prog ops Q rest (a.put o.dst undef) (W.setRow g cs')) : wpList Try.prog ops Q (o :: rest) a W :=
 wpList_plain hgd fun _ hK => wp_store_row 34 x y ho g cs' hx hy 34 z hg (by rw [hs]; exact size34) (by rw [hz, hs]) h1 (hK _ _ h)
end Go.Proofs.Ytmanacbdldfmfaa
namespace Go.Proofs.Ytmanacbdldfmfaa
open Go.RowKit
set_option maxRecDepth 10000
theorem own_wsn {w : World} {base n c : Nat} {a : Option Addr} {L : List Vt} (h : w.ownsRow base 39 5 (.slice a n c) L.length (wcs L)) : WsIs w (.slice a n c) L := own_ws h
theorem pz_cells {w W : World} {b g6 : Nat} {p : Pm} {s t : Ag} {a1 : Option Addr} {c1 : Nat} {a2 : Option Addr} {c2 : Nat} {o : List Vt} {v : Value} (h : PZ w b g6 p s t a1 c1 a2 c2 (cz p t a1 c1 a2 c2) o v W) : W.cell? ⟨g6, 3, none⟩ = some (.int .i64 t.rd) ∧ W.cell? ⟨g6, 4, none⟩ = some (.int .i64 t.st) ∧ W.cell? ⟨g6, 5, none⟩ = some (.string t.lk) ∧ W.cell? ⟨g6, 6, none⟩ = some (.int .i64 t.lr) ∧ W.cell? ⟨g6, 14, none⟩ = some (.bool t.dn) ∧ W.cell? ⟨g6, 15, none⟩ = some (.string t.dc) ∧ g6 < W.heap.size := by
 have q := h.box.1
 refine ⟨?_, ?_, ?_, ?_, ?_, ?_, (Array.getElem?_eq_some_iff.1 q).1⟩ <;> (rw [cell_of_row _ _ _ _ _ _ q]; rfl)
set_option maxHeartbeats 16000000 in
theorem agreePlays_any (z : Vt) (v : Value) (M : List Vt) (w : World) (hM : WsIs w v M) (hMw : ∀ m ∈ M, (Lit.int .i64 m.rd).wf = true) : Calls Try.prog 4 #[wv z, v] w fun e w' => e = .returned (.bool true) ∧ Ext w w' := by
 have HL0 : Hid (WsIs w v M) := hM
 have HMw : Hid (∀ m ∈ M, (Lit.int .i64 m.rd).wf = true) := hMw
 have HE0 : Hid (Ext w (w.alloc (.cells #[.int .i64 z.kd, .int .i64 z.fr, .int .i64 z.rd, .int .i64 z.va, .string z.vl] 26))) := (Ext.refl w).alloc _
 have HZ : Hid (∀ wx, Ext (w.alloc (.cells #[.int .i64 z.kd, .int .i64 z.fr, .int .i64 z.rd, .int .i64 z.va, .string z.vl] 26)) wx → wx.cell? ⟨w.heap.size, 0, none⟩ = some (.int .i64 z.kd) ∧ wx.cell? ⟨w.heap.size, 1, none⟩ = some (.int .i64 z.fr) ∧ wx.cell? ⟨w.heap.size, 2, none⟩ = some (.int .i64 z.rd) ∧ wx.cell? ⟨w.heap.size, 3, none⟩ = some (.int .i64 z.va) ∧ wx.cell? ⟨w.heap.size, 4, none⟩ = some (.string z.vl) ∧ w.heap.size < wx.heap.size) := fun wx hx => ⟨later hx (by rw [World.cell?_alloc_at _ _ _ _ rfl]; rfl), later hx (by rw [World.cell?_alloc_at _ _ _ _ rfl]; rfl), later hx (by rw [World.cell?_alloc_at _ _ _ _ rfl]; rfl), later hx (by rw [World.cell?_alloc_at _ _ _ _ rfl]; rfl), later hx (by rw [World.cell?_alloc_at _ _ _ _ rfl]; rfl), Nat.lt_of_lt_of_le (by simp) hx.size⟩
 obtain ⟨va, vc, rfl, _⟩ := hM
 obtain ⟨N, HN⟩ : ∃ N, Hid (M.length = N) := ⟨_, rfl⟩
 have HL := HL0
 rw [HN.out] at HL ⊢
 clear HL0 hMw
 go_enter Try.func4, Try.ntmps4
 go_wp2_with fail
 obtain ⟨W, hW⟩ : ∃ W, (w.alloc (.cells #[.int .i64 z.kd, .int .i64 z.fr, .int .i64 z.rd, .int .i64 z.va, .string z.vl] 26)) = W := ⟨_, rfl⟩
 rw [hW] at HE0 HZ ⊢
 clear hW
 refine (few_any _ M W (by rw [← HN.out] at *; exact HL.out.ext HE0.out)).mono ?_
 rintro e w1 ⟨x, rfl, hx, HX⟩
 have HX1 : Hid (Ext W w1) := HX
 clear HX
 rcases hx with rfl | ⟨rfl, hl⟩
 ·go_wp2_with fail
  refine (awake_any _).mono ?_
  rintro e w2 ⟨rfl, HX⟩
  have HX2 : Hid (Ext w w2) := HE0.out.trans (HX1.out.trans HX)
  clear HX
  go_wp2_with fail
  go_ret
  exact ⟨rfl, HX2.out⟩
 have Hl : Hid (N ≤ 60) := by show N ≤ 60; rw [← HN.out]; exact hl
 clear hl
 obtain ⟨y0, y1, y2, y3, y4, yl⟩ := HZ.out _ HX1.out
 by_cases hv : (5000 : Int) < (z.vl.size : Int)
 ·have dv : decide ((5000 : Int) < (z.vl.size : Int)) = true := decide_eq_true hv
  clear hv
  go_wp2_with fail
  refine (awake_any _).mono ?_
  rintro e w2 ⟨rfl, HX⟩
  have HX2 : Hid (Ext w w2) := HE0.out.trans (HX1.out.trans HX)
  clear HX
  go_wp2_with fail
  go_ret
  exact ⟨rfl, HX2.out⟩
 have dv : decide ((5000 : Int) < (z.vl.size : Int)) = false := decide_eq_false hv
 clear hv
 by_cases hp0 : okPm z.kd z.fr z.rd z.va z.vl
 case neg =>
  have HB : Hid (¬ okPm z.kd z.fr z.rd z.va z.vl) := hp0
  clear hp0
  go_wp2_with fail
  refine (anew_bad _ _ _ _ _ HB.out _).mono ?_
  rintro e w2 ⟨rfl, HX⟩
  have HX2 : Hid (Ext W w2) := HX1.out.trans HX
  clear HX y0 y1 y2 y3 y4 yl
  obtain ⟨y0, y1, y2, y3, y4, yl⟩ := HZ.out _ HX2.out
  go_wp2_with fail
  refine (rnewA_bad _ _ _ _ _ HB.out _).mono ?_
  rintro e w3 ⟨rfl, HX⟩
  have HX3 : Hid (Ext W w3) := HX2.out.trans HX
  clear HX y0 y1 y2 y3 y4 yl
  dsimp only
  refine (‹Shut (∀ a w, wpList _ _ _ _ a w → _)›).out _ _ ?_
  refine wpList_plain rfl fun K hK => ?_
  go_simp
  refine hK _ _ ?_
  clear hK K
  try simp only [sx]
  refine wpList_plain rfl fun K hK => ?_
  go_simp
  refine hK _ _ ?_
  clear hK K
  try simp only [sx]
  refine wpList_plain rfl fun K hK => ?_
  go_simp
  refine hK _ _ ?_
  clear hK K
  try simp only [sx]
  refine wpList_plain rfl fun K hK => ?_
  go_simp
  refine hK _ _ ?_
  clear hK K
  try simp only [sx]
  refine wl_st34n rfl rfl rfl rfl rfl rfl (by kernel_rfl) ?_
  try simp only [sx]
  have HX4 : Hid (Ext w (w3.alloc (.cells #[.int .i64 0, .int .i64 0, .string ⟨#[]⟩, .int .i64 0, .int .i64 0, .string ⟨#[]⟩, .int .i64 0, .string ⟨#[]⟩, .int .i64 0, .slice none 0 0, .int .i64 0, .int .i64 0, .slice none 0 0, .bool false, .bool false, .string ⟨#[]⟩] 34))) := HE0.out.trans (HX3.out.alloc _)
  obtain ⟨w4, hw4⟩ : ∃ x, w3.alloc (.cells #[.int .i64 0, .int .i64 0, .string ⟨#[]⟩, .int .i64 0, .int .i64 0, .string ⟨#[]⟩, .int .i64 0, .string ⟨#[]⟩, .int .i64 0, .slice none 0 0, .int .i64 0, .int .i64 0, .slice none 0 0, .bool false, .bool false, .string ⟨#[]⟩] 34) = x := ⟨_, rfl⟩
  rw [hw4] at HX4 ⊢
  clear hw4
  go_wp2_with fail
  refine (awake_any _).mono ?_
  rintro e w5 ⟨rfl, HX⟩
  have HX5 : Hid (Ext w w5) := HX4.out.trans HX
  clear HX
  go_wp2_with fail
  go_ret
  exact ⟨rfl, HX5.out⟩
 obtain ⟨p, hp, p1, p2, p3, p4, p5⟩ := okP_of hp0
 have Hp : Hid (okP p) := hp
 have Hme : Hid (p.me = z.rd) := p3
 have HNw : Hid (Calls Try.prog 12 #[.int .i64 z.kd, .int .i64 z.fr, .int .i64 z.rd, .int .i64 z.va, .string z.vl] w1 fun e w' => ∃ b, e = .returned (.pointer (some ⟨b, 0, none⟩)) ∧ LW W b p newA [] (.slice none 0 0) w') := by
  have := lnew_good (w := W) hp HX1.out
  rw [p1, p2, p3, p4, p5] at this
  exact this
 have HRn : Hid (∀ wx, Calls Try.prog 13 #[.int .i64 z.kd, .int .i64 z.fr, .int .i64 z.rd, .int .i64 z.va, .string z.vl] wx fun e w' => e = .returned (.tuple #[.agg (cz p newA none 0 none 0), .bool true]) ∧ Ext wx w') := fun wx => by
  have := rnewA_good p hp wx
  rw [p1, p2, p3, p4, p5] at this
  exact this
 clear hp hp0 p1 p2 p3 p4 p5
 go_wp2_with fail
 refine HNw.out.mono ?_
 rintro e w2 ⟨b, rfl, hW⟩
 have HW : Hid (LW W b p newA [] (.slice none 0 0) w2) := hW
 clear hW HNw y0 y1 y2 y3 y4 yl HX1
 obtain ⟨y0, y1, y2, y3, y4, yl⟩ := HZ.out _ HW.out.old
 go_wp2_with fail
 refine (HRn.out _).mono ?_
 rintro e w3 ⟨rfl, HX⟩
 have HW3 : Hid (LW W b p newA [] (.slice none 0 0) w3) := HW.out.ext HX
 clear HX y0 y1 y2 y3 y4 yl HW HRn
 dsimp only
 refine (‹Shut (∀ a w, wpList _ _ _ _ a w → _)›).out _ _ ?_
 refine wpList_plain rfl fun K hK => ?_
 go_simp
 refine hK _ _ ?_
 clear hK K
 try simp only [sx]
 refine wpList_plain rfl fun K hK => ?_
 go_simp
 refine hK _ _ ?_
 clear hK K
 try simp only [sx]
 refine wpList_plain rfl fun K hK => ?_
 go_simp
 refine hK _ _ ?_
 clear hK K
 try simp only [sx]
 refine wpList_plain rfl fun K hK => ?_
 go_simp
 refine hK _ _ ?_
 clear hK K
 try simp only [sx]
 refine wl_st34n rfl rfl rfl rfl rfl rfl (by kernel_rfl) ?_
 try simp only [sx]
 have HP4 : Hid (PZ W b w3.heap.size p newA newA none 0 none 0 (cz p newA none 0 none 0) [] (.slice none 0 0) (w3.alloc (.cells (cz p newA none 0 none 0) 34))) := PZ.new HW3.out _ rfl rfl rfl
 obtain ⟨g6, hg6⟩ : ∃ g, w3.heap.size = g := ⟨_, rfl⟩
 obtain ⟨w4, hw4⟩ : ∃ x, w3.alloc (.cells (cz p newA none 0 none 0) 34) = x := ⟨_, rfl⟩
 rw [hw4, hg6] at HP4
 rw [hw4, hg6]
 clear hw4 hg6 HW3
 have HT0 : Hid (Calls Try.prog 14 #[.pointer (some ⟨b, 0, none⟩), .agg #[.int .i64 2, .int .i64 1, .int .i64 0, .int .i64 0, .string ⟨#[]⟩]] w4 fun e w' => ∃ a c, e = .returned (.slice a 0 c) ∧ PZ W b g6 p newA newA none 0 none 0 (cz p newA none 0 none 0) [] (.slice none 0 0) w') := by
  refine (ptake_any ⟨2, 1, 0, 0, ⟨#[]⟩⟩ Hp.out (inv_new p) (fun h => absurd h (by decide)) (by decide) (by decide) HP4.out).mono ?_
  rintro e w' ⟨a, n, c, rfl, q1, q2⟩
  have et : takeA p newA ⟨2, 1, 0, 0, ⟨#[]⟩⟩ = (newA, []) := by unfold takeA; rw [if_pos (.inl (by decide))]
  rw [et] at q1 q2
  obtain rfl := own_n q2
  exact ⟨a, c, rfl, q1⟩
 clear HP4
 go_wp2_with fail
 refine HT0.out.mono ?_
 rintro e w5 ⟨ta, tc, rfl, hP⟩
 have HP5 : Hid (PZ W b g6 p newA newA none 0 none 0 (cz p newA none 0 none 0) [] (.slice none 0 0) w5) := hP
 clear hP HT0
 go_upto_region 9 with fail
 refine wp_region_lit ?_
 refine wl_ld34 rfl rfl rfl HP5.out.box.1 rfl ?_
 try simp only [sx]
 refine wpList_plain rfl fun K hK => ?_
 go_simp
 refine (rst_any (by decide) (by decide) (by rw [start_eq]) (by rw [start_eq]) HP5.out).mono ?_
 rintro e w6 ⟨a1, c1, a2, c2, oa, on, oc, rfl, hP, _, _⟩
 have HP6 : Hid (PZ W b g6 p newA (runA p M 0) a1 c1 a2 c2 (cz p newA none 0 none 0) (startA p newA).2 (.slice oa on oc) w6) := hP
 clear hP HP5
 dsimp only
 refine hK _ _ ?_
 clear hK K
 try simp only [sx]
 refine wpList_plain rfl fun K hK => ?_
 go_simp
 refine hK _ _ ?_
 clear hK K
 try simp only [sx]
 refine wpList_plain rfl fun K hK => ?_
 go_simp
 refine hK _ _ ?_
 clear hK K
 try simp only [sx]
 refine wpList_plain rfl fun K hK => ?_
 go_simp
 refine hK _ _ ?_
 clear hK K
 try simp only [sx]
 refine wpList_plain rfl fun K hK => ?_
 go_simp
 refine hK _ _ ?_
 clear hK K
 try simp only [sx]
 refine wl_st34n rfl rfl rfl rfl rfl rfl (by kernel_rfl) ?_
 try simp only [sx]
 have Hs0 : Hid (startA p newA = (runA p M 0, (startA p newA).2)) := rfl
 have HF0 : Hid (FA p (runA p M 0) 0) := runA_fa Hp.out M 0
 have HP7 : Hid (PZ W b g6 p newA (runA p M 0) a1 c1 a2 c2 (cz p newA none 0 none 0) (startA p newA).2 (.slice oa on oc) (w6.alloc (.cells (cz p (startA p newA).1 a1 c1 a2 c2) 34))) := HP6.out.ext ((Ext.refl w6).alloc _)
 have HB8 : Hid ((w6.alloc (.cells (cz p (startA p newA).1 a1 c1 a2 c2) 34)).heap[w6.heap.size]? = some (.cells (cz p (startA p newA).1 a1 c1 a2 c2) 34 (0, 0))) := heap_alloc_new w6 _
 obtain ⟨g8, hg8⟩ : ∃ g, w6.heap.size = g := ⟨_, rfl⟩
 obtain ⟨w7, hw7⟩ : ∃ x, w6.alloc (.cells (cz p (startA p newA).1 a1 c1 a2 c2) 34) = x := ⟨_, rfl⟩
 rw [hw7] at HP7
 rw [hw7, hg8] at HB8 ⊢
 clear hw7 hg8 HP6
 go_upto_region 10 with fail
 refine wp_region_lit ?_
 refine wl_ld34 rfl rfl rfl HB8.out rfl ?_
 try simp only [sx]
 refine wl_put rfl rfl rfl rfl HP7.out.box.1 HP7.out.box.2 rfl (by kernel_rfl) ?_
 try simp only [sx]
 have HP8 : Hid (PZ W b g6 p newA (runA p M 0) a1 c1 a2 c2 (cz p (runA p M 0) a1 c1 a2 c2) (startA p newA).2 (.slice oa on oc) (w7.setRow g6 (cz p (startA p newA).1 a1 c1 a2 c2))) := HP7.out.put _ rfl
 obtain ⟨w8, hw8⟩ : ∃ x, w7.setRow g6 (cz p (startA p newA).1 a1 c1 a2 c2) = x := ⟨_, rfl⟩
 rw [hw8] at HP8 ⊢
 clear hw8 HP7 HB8
 have Hol : Hid ((startA p newA).2.length ≤ 100000) := by show _ ≤ _; rw [start_eq]; dsimp only; split <;> simp
 go_wp2_with fail
 refine (pstart_any Hp.out (inv_new p) HP8.out).mono ?_
 rintro e w9 ⟨ua, un, uc, rfl, hP, hu⟩
 have HP9 : Hid (PZ W b g6 p (runA p M 0) (runA p M 0) a1 c1 a2 c2 (cz p (runA p M 0) a1 c1 a2 c2) (startA p newA).2 (.slice oa on oc) w9) := hP
 have HU9 : Hid (w9.ownsRow 0 39 5 (.slice ua un uc) (startA p newA).2.length (wcs (startA p newA).2)) := hu
 clear hP hu HP8
 generalize (startA p newA).2 = o0 at *
 go_wp2_with fail
 refine (words_any _ _ o0 Hol.out _ (own_wsn HU9.out) (own_wsn HP9.out.ws)).mono ?_
 rintro e w10 ⟨rfl, HX⟩
 have HP10 : Hid (PZ W b g6 p (runA p M 0) (runA p M 0) a1 c1 a2 c2 (cz p (runA p M 0) a1 c1 a2 c2) o0 (.slice oa on oc) w10) := HP9.out.ext HX
 clear HX HP9 HU9 Hol
 have HT1 : Hid (Calls Try.prog 17 #[.pointer (some ⟨b, 0, none⟩)] w10 fun e w' => ∃ a c, e = .returned (.slice a 0 c) ∧ PZ W b g6 p (runA p M 0) (runA p M 0) a1 c1 a2 c2 (cz p (runA p M 0) a1 c1 a2 c2) o0 (.slice oa on oc) w') := by
  refine (pstart_any Hp.out HF0.out.2.1 HP10.out).mono ?_
  rintro e w' ⟨a, n, c, rfl, q1, q2⟩
  have et : startA p (runA p M 0) = (runA p M 0, []) := if_pos HF0.out.2.2.1
  rw [et] at q1 q2
  obtain rfl := own_n q2
  exact ⟨a, c, rfl, q1⟩
 go_wp2_with fail
 refine HT1.out.mono ?_
 rintro e w11 ⟨ta, tc, rfl, hP⟩
 have HP11 : Hid (PZ W b g6 p (runA p M 0) (runA p M 0) a1 c1 a2 c2 (cz p (runA p M 0) a1 c1 a2 c2) o0 (.slice oa on oc) w11) := hP
 clear hP HT1 HP10 Hs0 HF0
 go_wp2_with fail
 go_loopw [10] (fun u10 wr => ∃ i : Nat, i ≤ N ∧ u10 = .int .i64 i ∧ ∃ a1 c1 a2 c2 o v, Hid (PZ W b g6 p (runA p M i) (runA p M i) a1 c1 a2 c2 (cz p (runA p M i) a1 c1 a2 c2) o v wr)) (fun u10 _ => N - (intOf u10).toNat)
 case atStart => exact ⟨0, Nat.zero_le _, rfl, a1, c1, a2, c2, o0, .slice oa on oc, HP11⟩
 case round =>
  clear HP11
  obtain ⟨i, hi, rfl, a1, c1, a2, c2, o1, v1, HPi⟩ := hrel
  by_cases hlt : i < N
  ·obtain ⟨q1, q0, qw⟩ := lp_nums i N hlt (by have := Hl.out; omega)
   obtain ⟨m, hm⟩ : ∃ m, M[i]? = some m := ⟨M[i]'(by rw [HN.out]; exact hlt), List.getElem?_eq_getElem _⟩
   have HL2 : WsIs W (.slice va M.length vc) M := by rw [HN.out]; exact HL.out.ext HE0.out
   obtain ⟨g, og, rfl, hbl, he0, he1, he2, he3, he4⟩ := HL2.get hm
   have HG1 : Hid (∀ wx, Ext W wx → g < wx.heap.size ∧ wx.cell? ⟨g, og + i * 5, none⟩ = some (.int .i64 m.kd) ∧ wx.cell? ⟨g, og + i * 5 + 1, none⟩ = some (.int .i64 m.fr) ∧ wx.cell? ⟨g, og + i * 5 + 2, none⟩ = some (.int .i64 m.rd) ∧ wx.cell? ⟨g, og + i * 5 + 3, none⟩ = some (.int .i64 m.va) ∧ wx.cell? ⟨g, og + i * 5 + 4, none⟩ = some (.string m.vl)) := fun wx hw => ⟨Nat.lt_of_lt_of_le hbl hw.size, later hw he0, later hw he1, later hw he2, later hw he3, later hw he4⟩
   clear HL2 hbl he0 he1 he2 he3 he4
   have HS0 : Hid (runA p M (i + 1) = (takeA p (runA p M i) m).1) := runA_step hm
   have HF : Hid (FA p (runA p M i) i) := runA_fa Hp.out M i
   have HFA : Hid (FA p (runA p M (i + 1)) (i + 1)) := runA_fa Hp.out M (i + 1)
   have HRT : Hid (∀ W1, Ext wr W1 → Calls Try.prog 18 #[.agg (cz p (runA p M i) a1 c1 a2 c2), .agg #[.int .i64 m.kd, .int .i64 m.fr, .int .i64 m.rd, .int .i64 m.va, .string m.vl]] W1 fun e w' => PZk W b g6 p (runA p M i) (takeA p (runA p M i) m).1 (cz p (runA p M i) a1 c1 a2 c2) (takeA p (runA p M i) m).2 wr W1 e w') := fun W1 hx => rtk_any m Hp.out HF.out.2.1 (by have := HF.out.2.2.2.2; have := Hl.out; omega) HPi.out hx
   have HPT : Hid (∀ (t : Ag) (b1 : Option Addr) (d1 : Nat) (b2 : Option Addr) (d2 : Nat) (z : Array Value) (o : List Vt) (v : Value) {wx : World}, PZ W b g6 p (runA p M i) t b1 d1 b2 d2 z o v wx → Calls Try.prog 14 #[.pointer (some ⟨b, 0, none⟩), .agg #[.int .i64 m.kd, .int .i64 m.fr, .int .i64 m.rd, .int .i64 m.va, .string m.vl]] wx fun e w' => ∃ a n c, e = .returned (.slice a n c) ∧ PZ W b g6 p (takeA p (runA p M i) m).1 t b1 d1 b2 d2 z o v w' ∧ w'.ownsRow 0 39 5 (.slice a n c) (takeA p (runA p M i) m).2.length (wcs (takeA p (runA p M i) m).2)) := fun t b1 d1 b2 d2 z o v wx h => ptake_any m Hp.out HF.out.2.1 (fun _ => HF.out.2.2.2.1) (by have := HF.out.2.2.2.2; have := Hl.out; omega) (HMw.out m (List.mem_of_getElem? hm)) h
   have Hle : Hid ((takeA p (runA p M i) m).2.length ≤ 100000) := Nat.le_trans (take_len HF.out.2.1 m) (by decide)
   have Hm : Hid (N - (intOf (.int .i64 ((i : Int) + 1))).toNat < N - (intOf (.int .i64 (i : Int))).toNat) := lp_meas hlt
   rw [← HS0.out] at HRT HPT
   obtain ⟨s', HS'⟩ : ∃ s', Hid (runA p M (i + 1) = s') := ⟨_, rfl⟩
   rw [HS'.out] at HRT HPT HFA
   generalize (takeA p (runA p M i) m).2 = out at *
   clear hm HF HS0
   generalize runA p M i = s at *
   go_upto_region 16 with fail
   refine wp_region_noPanic ?_
   refine wp_region_held (S := Ext wr) (by kernel_rfl) ?_
   rw [show ({ wr with drawn := wr.drawn + 1 } : World) = wr.drew from rfl]
   have HS : Ext wr wr.drew := (Ext.refl wr).drew
   have Hy0 : Hid (wr.heap.size = wr.drew.heap.size) := rfl
   generalize wr.drew = y0 at *
   refine takeH (i := 0) (v := ?vx0) ?hyx0 HS ?restx0
   case hyx0 => (intro wx hSx; obtain ⟨hbl, he0, he1, he2, he3, he4⟩ := HG1.out _ (HPi.out.old.trans hSx); refine ld34 (.tmp 6) ?_ g6 ?_ (cz p s a1 c1 a2 c2) (HPi.out.ext hSx).box.1 rfl <;> rfl)
   try simp only [sx]
   refine takeH (i := 1) (v := ?vx1) ?hyx1 HS ?restx1
   case hyx1 => (intro wx hSx; obtain ⟨hbl, he0, he1, he2, he3, he4⟩ := HG1.out _ (HPi.out.old.trans hSx); go_simp; try with_reducible rfl)
   try simp only [sx]
   refine takeH (i := 2) (v := ?vx2) ?hyx2 HS ?restx2
   case hyx2 => (intro wx hSx; obtain ⟨hbl, he0, he1, he2, he3, he4⟩ := HG1.out _ (HPi.out.old.trans hSx); go_simp; try with_reducible rfl)
   try simp only [sx]
   refine takeH (i := 3) (v := ?vx3) ?hyx3 HS ?restx3
   case hyx3 => (intro wx hSx; obtain ⟨hbl, he0, he1, he2, he3, he4⟩ := HG1.out _ (HPi.out.old.trans hSx); go_simp; try with_reducible rfl)
   try simp only [sx]
   refine takeH (i := 4) (v := ?vx4) ?hyx4 HS ?restx4
   case hyx4 => (intro wx hSx; obtain ⟨hbl, he0, he1, he2, he3, he4⟩ := HG1.out _ (HPi.out.old.trans hSx); go_simp; try with_reducible rfl)
   try simp only [sx]
   refine held_two (i := 5) (k := 9) (by kernel_rfl) rfl rfl rfl rfl (fun K hK => ?_) (fun K hK => ?_)
   ·go_simp
    refine (HRT.out _ HS).mono ?_
    rintro e y1 ⟨b1, d1, b2, d2, oa, on, oc, rfl, hP, hx, hF⟩
    have HSb : Ext wr y1 := HS.trans hx
    have HPy : Hid (PZ W b g6 p s s' b1 d1 b2 d2 (cz p s a1 c1 a2 c2) out (.slice oa on oc) y1) := hP
    clear hP hx hF
    try go_simp
    refine hK.out _ _ ⟨HSb, ?_⟩
    clear hK K
    try simp only [sx]
    refine takeH (i := 6) (v := ?vx6n1) ?hyx6n1 HSb ?restx6n1
    case hyx6n1 => (intro wx hSx; obtain ⟨hbl, he0, he1, he2, he3, he4⟩ := HG1.out _ (HPi.out.old.trans hSx); go_simp; try with_reducible rfl)
    try simp only [sx]
    refine takeH (i := 7) (v := ?vx7n1) ?hyx7n1 HSb ?restx7n1
    case hyx7n1 => (intro wx hSx; obtain ⟨hbl, he0, he1, he2, he3, he4⟩ := HG1.out _ (HPi.out.old.trans hSx); go_simp; try with_reducible rfl)
    try simp only [sx]
    refine takeH (i := 8) (v := ?vx8n1) ?hyx8n1 HSb ?restx8n1
    case hyx8n1 => (intro wx hSx; obtain ⟨hbl, he0, he1, he2, he3, he4⟩ := HG1.out _ (HPi.out.old.trans hSx); go_simp; try with_reducible rfl)
    try simp only [sx]
    refine held_one (i := 9) (by kernel_rfl) rfl rfl (fun K hK => ?_)
    go_simp
    have HSc : Ext wr (y1.alloc (.cells #[.int .i64 0, .int .i64 0, .string ⟨#[]⟩, .int .i64 0, .int .i64 0, .string ⟨#[]⟩, .int .i64 0, .string ⟨#[]⟩, .int .i64 0, .slice none 0 0, .int .i64 0, .int .i64 0, .slice none 0 0, .bool false, .bool false, .string ⟨#[]⟩] 34)) := HSb.alloc _
    refine hK.out _ _ ⟨HSc, ?_⟩
    clear hK K
    try simp only [sx]
    refine held_one (i := 10) (by kernel_rfl) rfl rfl (fun K hK => ?_)
    refine wp_st34n rfl rfl rfl rfl rfl (by kernel_rfl) ?_
    have HSd : Ext wr (y1.alloc (.cells (cz p s' b1 d1 b2 d2) 34)) := HSb.alloc _
    have HPe : Hid (PZ W b g6 p s s' b1 d1 b2 d2 (cz p s a1 c1 a2 c2) out (.slice oa on oc) (y1.alloc (.cells (cz p s' b1 d1 b2 d2) 34))) := HPy.out.ext ((Ext.refl y1).alloc _)
    have HBe : Hid ((y1.alloc (.cells (cz p s' b1 d1 b2 d2) 34)).heap[y1.heap.size]? = some (.cells (cz p s' b1 d1 b2 d2) 34 (0, 0))) := heap_alloc_new y1 _
    obtain ⟨ye, hye⟩ : ∃ y, y1.alloc (.cells (cz p s' b1 d1 b2 d2) 34) = y := ⟨_, rfl⟩
    rw [hye] at HSd HPe HBe ⊢
    clear hye
    refine hK.out _ _ ⟨HSd, ?_⟩
    clear hK K HPy HSb HSc
    try simp only [sx]
    refine takeH (i := 11) (v := ?vx11n1) ?hyx11n1 HSd ?restx11n1
    case hyx11n1 => (intro wx hSx; obtain ⟨hbl, he0, he1, he2, he3, he4⟩ := HG1.out _ (HPi.out.old.trans hSx); go_simp; try with_reducible rfl)
    try simp only [sx]
    refine wpAnyH_done (by kernel_rfl) ?_ _
    refine NoPanic.normal ?_
    clear HS HSd Hy0
    go_upto_region 17 with fail
    refine wp_region_lit ?_
    refine wl_ld34 rfl rfl rfl HBe.out rfl ?_
    try simp only [sx]
    refine wl_put rfl rfl rfl rfl HPe.out.box.1 HPe.out.box.2 rfl (by kernel_rfl) ?_
    try simp only [sx]
    have HP17 : Hid (PZ W b g6 p s s' b1 d1 b2 d2 (cz p s' b1 d1 b2 d2) out (.slice oa on oc) (ye.setRow g6 (cz p s' b1 d1 b2 d2))) := HPe.out.put _ rfl
    obtain ⟨w17, hw17⟩ : ∃ x, ye.setRow g6 (cz p s' b1 d1 b2 d2) = x := ⟨_, rfl⟩
    rw [hw17] at HP17 ⊢
    clear hw17 HPe HBe
    obtain ⟨hbl, he0, he1, he2, he3, he4⟩ := HG1.out _ HP17.out.old
    go_wp2_with fail
    refine (HPT.out _ _ _ _ _ _ _ _ HP17.out).mono ?_
    rintro e w18 ⟨ua, un, uc, rfl, hP, hu⟩
    have HP18 : Hid (PZ W b g6 p s' s' b1 d1 b2 d2 (cz p s' b1 d1 b2 d2) out (.slice oa on oc) w18) := hP
    have HU18 : Hid (w18.ownsRow 0 39 5 (.slice ua un uc) out.length (wcs out)) := hu
    clear hP hu HP17 hbl he0 he1 he2 he3 he4
    go_wp2_with fail
    refine (words_any _ _ out Hle.out _ (own_wsn HU18.out) (own_wsn HP18.out.ws)).mono ?_
    rintro e w19 ⟨rfl, HX⟩
    have HP19 : Hid (PZ W b g6 p s' s' b1 d1 b2 d2 (cz p s' b1 d1 b2 d2) out (.slice oa on oc) w19) := HP18.out.ext HX
    clear HX HP18 HU18
    go_wp2_with fail
    refine (lat HP19.out.lw).mono ?_
    rintro e w20 ⟨rfl, HX⟩
    have HP20 : Hid (PZ W b g6 p s' s' b1 d1 b2 d2 (cz p s' b1 d1 b2 d2) out (.slice oa on oc) w20) := HP19.out.ext HX
    clear HX HP19
    go_wp2_with fail
    refine (llocked HFA.out.2.1 HP20.out.lw).mono ?_
    rintro e w21 ⟨rfl, HX⟩
    have HP21 : Hid (PZ W b g6 p s' s' b1 d1 b2 d2 (cz p s' b1 d1 b2 d2) out (.slice oa on oc) w21) := HP20.out.ext HX
    clear HX HP20
    go_wp2_with fail
    refine (ldecided HFA.out.2.1 HP21.out.lw).mono ?_
    rintro e w22 ⟨rfl, HX⟩
    have HP22 : Hid (PZ W b g6 p s' s' b1 d1 b2 d2 (cz p s' b1 d1 b2 d2) out (.slice oa on oc) w22) := HP21.out.ext HX
    clear HX HP21
    obtain ⟨k3, k4, k5, k6, k14, k15, kl⟩ := pz_cells HP22.out
    have n3 : (s'.rd != s'.rd) = false := by simp
    have n4 : (s'.st != s'.st) = false := by simp
    have n5 : (s'.lk.toList != s'.lk.toList) = false := by simp
    have n6 : (s'.lr != s'.lr) = false := by simp
    have n15 : (s'.dc.toList != s'.dc.toList) = false := by simp
    have n14 : (s'.dn != s'.dn) = false := by simp
    go_wp2_with fail
    go_roundw
    case rel => exact ⟨i + 1, hlt, by push_cast; rfl, b1, d1, b2, d2, out, .slice oa on oc, by show PZ _ _ _ _ _ _ _ _ _ _ _ _ _ _; rw [HS'.out]; exact HP22.out⟩
    case measure => exact Hm.out
   ·go_simp
    have HSa : Ext wr (y0.alloc (.cells #[.int .i64 0, .int .i64 0, .string ⟨#[]⟩, .int .i64 0, .int .i64 0, .string ⟨#[]⟩, .int .i64 0, .string ⟨#[]⟩, .int .i64 0, .slice none 0 0, .int .i64 0, .int .i64 0, .slice none 0 0, .bool false, .bool false, .string ⟨#[]⟩] 34)) := HS.alloc _
    have HBa : Hid ((y0.alloc (.cells #[.int .i64 0, .int .i64 0, .string ⟨#[]⟩, .int .i64 0, .int .i64 0, .string ⟨#[]⟩, .int .i64 0, .string ⟨#[]⟩, .int .i64 0, .slice none 0 0, .int .i64 0, .int .i64 0, .slice none 0 0, .bool false, .bool false, .string ⟨#[]⟩] 34)).heap[y0.heap.size]? = some (.cells #[.int .i64 0, .int .i64 0, .string ⟨#[]⟩, .int .i64 0, .int .i64 0, .string ⟨#[]⟩, .int .i64 0, .string ⟨#[]⟩, .int .i64 0, .slice none 0 0, .int .i64 0, .int .i64 0, .slice none 0 0, .bool false, .bool false, .string ⟨#[]⟩] 34 (0, 0))) := heap_alloc_new y0 _
    have HGl : Hid (y0.heap.size < (y0.alloc (.cells #[.int .i64 0, .int .i64 0, .string ⟨#[]⟩, .int .i64 0, .int .i64 0, .string ⟨#[]⟩, .int .i64 0, .string ⟨#[]⟩, .int .i64 0, .slice none 0 0, .int .i64 0, .int .i64 0, .slice none 0 0, .bool false, .bool false, .string ⟨#[]⟩] 34)).heap.size) := by show _ < _; simp
    obtain ⟨ga, hga⟩ : ∃ g, y0.heap.size = g := ⟨_, rfl⟩
    have Hga : Hid (wr.heap.size = ga) := Hy0.out.trans hga
    obtain ⟨ya, hya⟩ : ∃ y, y0.alloc (.cells #[.int .i64 0, .int .i64 0, .string ⟨#[]⟩, .int .i64 0, .int .i64 0, .string ⟨#[]⟩, .int .i64 0, .string ⟨#[]⟩, .int .i64 0, .slice none 0 0, .int .i64 0, .int .i64 0, .slice none 0 0, .bool false, .bool false, .string ⟨#[]⟩] 34) = y := ⟨_, rfl⟩
    rw [hya] at HSa
    rw [hya, hga] at HBa HGl
    rw [hya, hga]
    clear hya hga
    refine hK.out _ _ ⟨HSa, ?_⟩
    clear hK K
    try simp only [sx]
    refine held_one (i := 5) (by kernel_rfl) rfl rfl (fun K hK => ?_)
    go_simp
    refine (HRT.out _ HSa).mono ?_
    rintro e y1 ⟨b1, d1, b2, d2, oa, on, oc, rfl, hP, hx, hF⟩
    have HSb : Ext wr y1 := HSa.trans hx
    have HPy : Hid (PZ W b g6 p s s' b1 d1 b2 d2 (cz p s a1 c1 a2 c2) out (.slice oa on oc) y1) := hP
    have HF : Hid (PZ W b g6 p s s' b1 d1 b2 d2 (cz p s a1 c1 a2 c2) out (.slice oa on oc) (y1.setRow ga (cz p s' b1 d1 b2 d2))) := hF ga _ (Nat.le_of_eq Hga.out) HGl.out
    have HBy : Hid (y1.heap[ga]? = some (.cells #[.int .i64 0, .int .i64 0, .string ⟨#[]⟩, .int .i64 0, .int .i64 0, .string ⟨#[]⟩, .int .i64 0, .string ⟨#[]⟩, .int .i64 0, .slice none 0 0, .int .i64 0, .int .i64 0, .slice none 0 0, .bool false, .bool false, .string ⟨#[]⟩] 34 (0, 0))) := (Below.block hx ga HGl.out).trans HBa.out
    clear hP hx hF
    try go_simp
    refine hK.out _ _ ⟨HSb, ?_⟩
    clear hK K
    try simp only [sx]
    refine takeH (i := 6) (v := ?vx6n2) ?hyx6n2 HSb ?restx6n2
    case hyx6n2 => (intro wx hSx; obtain ⟨hbl, he0, he1, he2, he3, he4⟩ := HG1.out _ (HPi.out.old.trans hSx); go_simp; try with_reducible rfl)
    try simp only [sx]
    refine takeH (i := 7) (v := ?vx7n2) ?hyx7n2 HSb ?restx7n2
    case hyx7n2 => (intro wx hSx; obtain ⟨hbl, he0, he1, he2, he3, he4⟩ := HG1.out _ (HPi.out.old.trans hSx); go_simp; try with_reducible rfl)
    try simp only [sx]
    refine takeH (i := 8) (v := ?vx8n2) ?hyx8n2 HSb ?restx8n2
    case hyx8n2 => (intro wx hSx; obtain ⟨hbl, he0, he1, he2, he3, he4⟩ := HG1.out _ (HPi.out.old.trans hSx); go_simp; try with_reducible rfl)
    try simp only [sx]
    refine held_one (i := 10) (by kernel_rfl) rfl rfl (fun K hK => ?_)
    refine wp_store_row 34 (.tmp 11) (.tmp 104) rfl ga (cz p s' b1 d1 b2 d2) rfl rfl 34 #[.int .i64 0, .int .i64 0, .string ⟨#[]⟩, .int .i64 0, .int .i64 0, .string ⟨#[]⟩, .int .i64 0, .string ⟨#[]⟩, .int .i64 0, .slice none 0 0, .int .i64 0, .int .i64 0, .slice none 0 0, .bool false, .bool false, .string ⟨#[]⟩] HBy.out size34 rfl (by kernel_rfl) ?_
    have HSd : Ext wr (y1.setRow ga (cz p s' b1 d1 b2 d2)) := HSb.row (Nat.le_of_eq Hga.out) _
    have HPe : Hid (PZ W b g6 p s s' b1 d1 b2 d2 (cz p s a1 c1 a2 c2) out (.slice oa on oc) (y1.setRow ga (cz p s' b1 d1 b2 d2))) := HF.out
    have HBe : Hid ((y1.setRow ga (cz p s' b1 d1 b2 d2)).heap[ga]? = some (.cells (cz p s' b1 d1 b2 d2) 34 (0, 0))) := setRow_heap y1 ga _ _ 34 (0, 0) HBy.out
    obtain ⟨ye, hye⟩ : ∃ y, y1.setRow ga (cz p s' b1 d1 b2 d2) = y := ⟨_, rfl⟩
    rw [hye] at HSd HPe HBe ⊢
    clear hye HF HBy
    refine hK.out _ _ ⟨HSd, ?_⟩
    clear hK K HPy HSb HBa HGl Hga
    try simp only [sx]
    refine takeH (i := 11) (v := ?vx11n2) ?hyx11n2 HSd ?restx11n2
    case hyx11n2 => (intro wx hSx; obtain ⟨hbl, he0, he1, he2, he3, he4⟩ := HG1.out _ (HPi.out.old.trans hSx); go_simp; try with_reducible rfl)
    try simp only [sx]
    refine wpAnyH_done (by kernel_rfl) ?_ _
    refine NoPanic.normal ?_
    clear HS HSd Hy0
    go_upto_region 17 with fail
    refine wp_region_lit ?_
    refine wl_ld34 rfl rfl rfl HBe.out rfl ?_
    try simp only [sx]
    refine wl_put rfl rfl rfl rfl HPe.out.box.1 HPe.out.box.2 rfl (by kernel_rfl) ?_
    try simp only [sx]
    have HP17 : Hid (PZ W b g6 p s s' b1 d1 b2 d2 (cz p s' b1 d1 b2 d2) out (.slice oa on oc) (ye.setRow g6 (cz p s' b1 d1 b2 d2))) := HPe.out.put _ rfl
    obtain ⟨w17, hw17⟩ : ∃ x, ye.setRow g6 (cz p s' b1 d1 b2 d2) = x := ⟨_, rfl⟩
    rw [hw17] at HP17 ⊢
    clear hw17 HPe HBe
    obtain ⟨hbl, he0, he1, he2, he3, he4⟩ := HG1.out _ HP17.out.old
    go_wp2_with fail
    refine (HPT.out _ _ _ _ _ _ _ _ HP17.out).mono ?_
    rintro e w18 ⟨ua, un, uc, rfl, hP, hu⟩
    have HP18 : Hid (PZ W b g6 p s' s' b1 d1 b2 d2 (cz p s' b1 d1 b2 d2) out (.slice oa on oc) w18) := hP
    have HU18 : Hid (w18.ownsRow 0 39 5 (.slice ua un uc) out.length (wcs out)) := hu
    clear hP hu HP17 hbl he0 he1 he2 he3 he4
    go_wp2_with fail
    refine (words_any _ _ out Hle.out _ (own_wsn HU18.out) (own_wsn HP18.out.ws)).mono ?_
    rintro e w19 ⟨rfl, HX⟩
    have HP19 : Hid (PZ W b g6 p s' s' b1 d1 b2 d2 (cz p s' b1 d1 b2 d2) out (.slice oa on oc) w19) := HP18.out.ext HX
    clear HX HP18 HU18
    go_wp2_with fail
    refine (lat HP19.out.lw).mono ?_
    rintro e w20 ⟨rfl, HX⟩
    have HP20 : Hid (PZ W b g6 p s' s' b1 d1 b2 d2 (cz p s' b1 d1 b2 d2) out (.slice oa on oc) w20) := HP19.out.ext HX
    clear HX HP19
    go_wp2_with fail
    refine (llocked HFA.out.2.1 HP20.out.lw).mono ?_
    rintro e w21 ⟨rfl, HX⟩
    have HP21 : Hid (PZ W b g6 p s' s' b1 d1 b2 d2 (cz p s' b1 d1 b2 d2) out (.slice oa on oc) w21) := HP20.out.ext HX
    clear HX HP20
    go_wp2_with fail
    refine (ldecided HFA.out.2.1 HP21.out.lw).mono ?_
    rintro e w22 ⟨rfl, HX⟩
    have HP22 : Hid (PZ W b g6 p s' s' b1 d1 b2 d2 (cz p s' b1 d1 b2 d2) out (.slice oa on oc) w22) := HP21.out.ext HX
    clear HX HP21
    obtain ⟨k3, k4, k5, k6, k14, k15, kl⟩ := pz_cells HP22.out
    have n3 : (s'.rd != s'.rd) = false := by simp
    have n4 : (s'.st != s'.st) = false := by simp
    have n5 : (s'.lk.toList != s'.lk.toList) = false := by simp
    have n6 : (s'.lr != s'.lr) = false := by simp
    have n15 : (s'.dc.toList != s'.dc.toList) = false := by simp
    have n14 : (s'.dn != s'.dn) = false := by simp
    go_wp2_with fail
    go_roundw
    case rel => exact ⟨i + 1, hlt, by push_cast; rfl, b1, d1, b2, d2, out, .slice oa on oc, by show PZ _ _ _ _ _ _ _ _ _ _ _ _ _ _; rw [HS'.out]; exact HP22.out⟩
    case measure => exact Hm.out
  ·obtain rfl : i = N := by omega
   have hnl : ¬ (i : Int) < (i : Int) := by omega
   go_wp2_with fail
   refine (awake_any _).mono ?_
   rintro e w12 ⟨rfl, HX⟩
   have HX2 : Hid (Ext w w12) := HE0.out.trans (HPi.out.old.trans HX)
   clear HX
   go_wp2_with fail
   go_ret
   exact ⟨rfl, HX2.out⟩
end Go.Proofs.Ytmanacbdldfmfaa

/-
 agree.New, At, Locked, Decided, called.
-/
import Derived.Test.YtmanacbdldfmfaaAa
namespace Go.Proofs.Ytmanacbdldfmfaa
open Go.RowKit
set_option maxRecDepth 10000
theorem emp_of {s : ByteArray} (h : s.size = 0) : s = emp := by
 cases s with | mk d => cases d with | mk l => cases l with
  | nil => rfl
  | cons a r => simp [ByteArray.size] at h
theorem size_emp {s : ByteArray} (h : s = emp) : s.size = 0 := by rw [h]; rfl
def zp : Nat → List Value
 | 0 => []
 | n + 1 => .string emp :: .int .i64 0 :: zp n
theorem zp_get : ∀ (n r : Nat), r < n → (zp n)[r * 2]? = some (.string emp) ∧ (zp n)[r * 2 + 1]? = some (.int .i64 0)
 | 0, r, h => absurd h (Nat.not_lt_zero _)
 | n + 1, 0, _ => ⟨rfl, rfl⟩
 | n + 1, r + 1, h => by
  have := zp_get n r (by omega)
  rw [show (r + 1) * 2 = r * 2 + 1 + 1 from by omega]
  exact this
theorem zp_len : ∀ n, (zp n).length = n * 2
 | 0 => rfl
 | n + 1 => by simp [zp, zp_len n]; omega
/-- The cells of a new part. -/
def nwc (n me ht : Int) (own : ByteArray) (vp : Value) : List Value := [.int .i64 n, .int .i64 me, .int .i64 ht, .string own, .int .i64 (-1), .int .i64 0, .string emp, .int .i64 (-1), .string emp, .int .i64 (-1)] ++ (zp 64 ++ [vp, .string emp, .nilFunc])
theorem nwc_built (n me ht : Int) (own : ByteArray) (a : Addr) : Try.prog.built 64 [(0, .int .i64 n), (1, .int .i64 me), (2, .int .i64 ht), (3, .string own), (4, .int .i64 (-1)), (6, .agg #[.string emp, .int .i64 (-1)]), (7, .agg #[.string emp, .int .i64 (-1)]), (9, .pointer (some a))] = some (nwc n me ht own (.pointer (some a))).toArray := by kernel_rfl
theorem nwc_mid (n me ht : Int) (own : ByteArray) (vp : Value) {k : Nat} (h : k < 128) : (nwc n me ht own vp)[10 + k]? = (zp 64)[k]? := by
 unfold nwc
 rw [List.getElem?_append_right (by simp)]
 show (zp 64 ++ [vp, .string emp, .nilFunc])[10 + k - 10]? = _
 rw [Nat.add_sub_cancel_left, List.getElem?_append_left (by rw [zp_len]; omega)]
theorem nwc_get (n me ht : Int) (own : ByteArray) (vp : Value) {r : Nat} (h : r < 64) : (nwc n me ht own vp)[10 + r * 2]? = some (.string emp) ∧ (nwc n me ht own vp)[10 + r * 2 + 1]? = some (.int .i64 0) := by
 rw [nwc_mid n me ht own vp (k := r * 2) (by omega), Nat.add_assoc, nwc_mid n me ht own vp (k := r * 2 + 1) (by omega)]
 exact zp_get 64 r h
theorem nwc_len (n me ht : Int) (own : ByteArray) (vp : Value) : (nwc n me ht own vp).length = 141 := by
 unfold nwc
 rw [List.length_append, List.length_append, zp_len]
 rfl
theorem nwc_ac (p : Pm) (vp : Value) : AC p newA vp .nilFunc (fun j => (nwc p.n p.me p.ht p.own vp).getD j undef) := by
 refine ⟨rfl, rfl, rfl, rfl, rfl, rfl, rfl, by kernel_rfl, by kernel_rfl, fun _ => rfl, fun _ => rfl, fun _ => rfl, fun _ => by kernel_rfl, fun _ r hr => ?_⟩
 obtain ⟨h1, h2⟩ := nwc_get (p.n : Int) p.me p.ht p.own vp hr
 simp only [List.getD_eq_getElem?_getD, h1, h2]
 exact ⟨rfl, rfl⟩
/-- A part that was made: where it lies. -/
def NewAP (p : Pm) (w : World) (e : Ending) (w' : World) : Prop := ∃ b vp G, e = .returned (.pointer (some ⟨b, 0, none⟩)) ∧ AB w' b p newA vp .nilFunc G ∧ From G w.heap.size ∧ Ext w w'
theorem nw_ab {p : Pm} {w W : World} {v : Value} {G : Nat → Prop} (h : VAt W v p.n p.t [] G) (hf : From G w.heap.size) (hx : Ext w W) : NewAP p w (.returned (.pointer (some ⟨W.heap.size, 0, none⟩))) (W.alloc (.cells (nwc p.n p.me p.ht p.own v).toArray 64)) := by
 obtain ⟨vb, bm, sl, rfl, hv, rfl⟩ := h
 have hx2 : Ext W (W.alloc (.cells (nwc p.n p.me p.ht p.own (.pointer (some ⟨vb, 0, none⟩))).toArray 64)) := (Ext.refl W).alloc _
 refine ⟨W.heap.size, .pointer (some ⟨vb, 0, none⟩), fun k => k = W.heap.size ∨ vbG vb bm sl k, rfl, ⟨⟨_, Blk.new W _ 64 (fun j hj => ?_), nwc_ac p _⟩, .inl rfl, ?_, fun _ => ⟨vb, bm, sl, rfl, hv.ext hx2, ?_, fun k q => .inr q⟩⟩, ?_, hx.trans hx2⟩
 ·have : j < (nwc p.n p.me p.ht p.own (.pointer (some ⟨vb, 0, none⟩))).length := by rw [nwc_len]; exact hj
  simp only [List.getElem?_toArray, List.getD_eq_getElem?_getD, List.getElem?_eq_getElem this, Option.getD_some]
 ·rintro k (rfl | q)
  ·simp
  ·have := hv.lt k q; simp; omega
 ·intro q; have := hv.lt _ q; omega
 ·rintro k (rfl | q)
  ·exact hx.size
  ·exact hf k q
theorem build57 (w : World) : (Instr.build 57 #[(1, .int .i64 (-1))]).run Try.prog w = .ok (.agg #[.string emp, .int .i64 (-1)]) w := by kernel_rfl
set_option maxHeartbeats 4000000 in
theorem anew_bad (n t me ht : Int) (own : ByteArray) (h : ¬ okPm n t me ht own) (w : World) : Calls Try.prog 12 #[.int .i64 n, .int .i64 t, .int .i64 me, .int .i64 ht, .string own] w fun e w' => e = .returned (.pointer none) ∧ Ext w w' := by
 by_cases hq : hasQ n t
 ·obtain ⟨N, rfl⟩ : ∃ N : Nat, n = (N : Int) := ⟨n.toNat, by have := hq.1; have := hq.2.2.1; omega⟩
  obtain ⟨T, rfl⟩ : ∃ T : Nat, t = (T : Int) := ⟨t.toNat, by have := hq.1; omega⟩
  have HQ : Hid (hasQ N T) := hq
  have Hn : Hid (¬ okPm N T me ht own) := h
  clear hq h
  by_cases h0 : me < 1
  ·have d0 : decide (me < 1) = true := decide_eq_true h0
   clear h0
   go_enter Try.func12, Try.ntmps12
   go_wp2_with fail
   refine (vnew_good N T HQ.out w).mono ?_
   rintro e w1 ⟨v, G, rfl, hV, _, HX⟩
   obtain ⟨a, rfl⟩ := hV.form
   have HX1 : Hid (Ext w w1) := HX
   clear hV HX
   go_wp2
   go_ret
   exact ⟨rfl, HX1.out⟩
  have d0 : decide (me < 1) = false := decide_eq_false h0
  by_cases h1 : (N : Int) < me
  ·have d1 : decide ((N : Int) < me) = true := decide_eq_true h1
   clear h0 h1
   go_enter Try.func12, Try.ntmps12
   go_wp2_with fail
   refine (vnew_good N T HQ.out w).mono ?_
   rintro e w1 ⟨v, G, rfl, hV, _, HX⟩
   obtain ⟨a, rfl⟩ := hV.form
   have HX1 : Hid (Ext w w1) := HX
   clear hV HX
   go_wp2
   go_ret
   exact ⟨rfl, HX1.out⟩
  have d1 : decide ((N : Int) < me) = false := decide_eq_false h1
  by_cases h2 : ht < 0
  ·have d2 : decide (ht < 0) = true := decide_eq_true h2
   clear h0 h1 h2
   go_enter Try.func12, Try.ntmps12
   go_wp2_with fail
   refine (vnew_good N T HQ.out w).mono ?_
   rintro e w1 ⟨v, G, rfl, hV, _, HX⟩
   obtain ⟨a, rfl⟩ := hV.form
   have HX1 : Hid (Ext w w1) := HX
   clear hV HX
   go_wp2
   go_ret
   exact ⟨rfl, HX1.out⟩
  have d2 : decide (ht < 0) = false := decide_eq_false h2
  by_cases h3 : (64 : Int) < ht
  ·have d3 : decide ((64 : Int) < ht) = true := decide_eq_true h3
   clear h0 h1 h2 h3
   go_enter Try.func12, Try.ntmps12
   go_wp2_with fail
   refine (vnew_good N T HQ.out w).mono ?_
   rintro e w1 ⟨v, G, rfl, hV, _, HX⟩
   obtain ⟨a, rfl⟩ := hV.form
   have HX1 : Hid (Ext w w1) := HX
   clear hV HX
   go_wp2
   go_ret
   exact ⟨rfl, HX1.out⟩
  have d3 : decide ((64 : Int) < ht) = false := decide_eq_false h3
  by_cases h4 : own.size = 0
  ·have q4 := isEmpty_nil h4
   have q5 := toList_nil h4
   clear h0 h1 h2 h3 h4
   go_enter Try.func12, Try.ntmps12
   go_wp2_with fail
   refine (vnew_good N T HQ.out w).mono ?_
   rintro e w1 ⟨v, G, rfl, hV, _, HX⟩
   obtain ⟨a, rfl⟩ := hV.form
   have HX1 : Hid (Ext w w1) := HX
   clear hV HX
   go_wp2
   go_ret
   exact ⟨rfl, HX1.out⟩
  have q4 := isEmpty_some h4
  have q5 := toList_some h4
  by_cases h5 : (4096 : Int) < (own.size : Int)
  ·have d5 : decide ((4096 : Int) < (own.size : Int)) = true := decide_eq_true h5
   clear h0 h1 h2 h3 h4 h5
   go_enter Try.func12, Try.ntmps12
   go_wp2_with fail
   refine (vnew_good N T HQ.out w).mono ?_
   rintro e w1 ⟨v, G, rfl, hV, _, HX⟩
   obtain ⟨a, rfl⟩ := hV.form
   have HX1 : Hid (Ext w w1) := HX
   clear hV HX
   go_wp2
   go_ret
   exact ⟨rfl, HX1.out⟩
  exact absurd ⟨HQ.out, by omega, by omega, by omega, by omega, h4, by omega⟩ Hn.out
 ·have HQ : Hid (¬ hasQ n t) := hq
  clear hq h
  go_enter Try.func12, Try.ntmps12
  go_wp2_with fail
  refine (vnew_bad n t HQ.out w).mono ?_
  rintro e w1 ⟨rfl, HX⟩
  have HX1 : Hid (Ext w w1) := HX
  clear HX
  go_wp2
  go_ret
  exact ⟨rfl, HX1.out⟩
theorem exec_build {P : Program} {o : Oper} {a : Act} {w : World} (t : TypeId) (parts : Array (Nat × Operand)) (ho : o.op = .build t parts) {cells : Array Value} (hf : P.built t (parts.map fun (i, x) => (i, a.eval x)).toList = some cells) : (execOp a.eval o).run P w = .ok (.value (.agg cells)) w := by
 unfold execOp
 simp only [ho, Sem.run_bind, run_build w t _ cells hf, Result.andThen_ok]
 rfl
set_option maxHeartbeats 4000000 in
theorem anew_good (p : Pm) (h : okP p) (w : World) : Calls Try.prog 12 #[.int .i64 (p.n : Int), .int .i64 (p.t : Int), .int .i64 p.me, .int .i64 p.ht, .string p.own] w fun e w' => NewAP p w e w' := by
 have HQ : Hid (hasQ p.n p.t) := h.1
 have HO : Hid (p.own.size ≤ 4096) := h.2.2.2.2.2.2
 obtain ⟨_, h0, h1, h2, h3, h4, h5⟩ := h
 have d0 : decide (p.me < 1) = false := decide_eq_false (by omega)
 have d1 : decide ((p.n : Int) < p.me) = false := decide_eq_false (by omega)
 have d2 : decide (p.ht < 0) = false := decide_eq_false (by omega)
 have d3 : decide ((64 : Int) < p.ht) = false := decide_eq_false (by omega)
 have q4 := isEmpty_some h4
 have q5 := toList_some h4
 have d5 : decide ((4096 : Int) < (p.own.size : Int)) = false := decide_eq_false (by omega)
 clear h0 h1 h2 h3 h4 h5
 go_enter Try.func12, Try.ntmps12
 go_wp2_with fail
 refine (vnew_good p.n p.t HQ.out w).mono ?_
 rintro e w1 ⟨v, G, rfl, hV, hG, HX⟩
 obtain ⟨a, rfl⟩ := hV.form
 have HX1 : Hid (Ext w w1) := HX
 have HV : Hid (VAt w1 (.pointer (some a)) p.n p.t [] G) := hV
 have HG : Hid (From G w.heap.size) := hG
 clear hV HX hG
 go_upto_region 5 with fail
 have HB : Hid (∀ wx, Ext (w1.alloc (.cells #[.string emp, .int .i64 (-1)] 57)) wx → wx.cell? ⟨w1.heap.size, 0, none⟩ = some (.string emp) ∧ wx.cell? ⟨w1.heap.size, 1, none⟩ = some (.int .i64 (-1)) ∧ w1.heap.size < wx.heap.size) := fun wx hx => by
  have l : w1.heap.size < (w1.alloc (.cells #[.string emp, .int .i64 (-1)] 57)).heap.size := by simp
  exact ⟨later hx (by rw [World.cell?_alloc_at _ _ _ _ rfl]; rfl), later hx (by rw [World.cell?_alloc_at _ _ _ _ rfl]; rfl), Nat.lt_of_lt_of_le l hx.size⟩
 have HS : Ext (w1.alloc (.cells #[.string emp, .int .i64 (-1)] 57)) ((w1.alloc (.cells #[.string emp, .int .i64 (-1)] 57))).drew := (Ext.refl _).drew
 refine wp_region_noPanic ?_
 refine wp_region_held (S := Ext (w1.alloc (.cells #[.string emp, .int .i64 (-1)] 57))) (by kernel_rfl) ?_
 rw [show ({ (w1.alloc (.cells #[.string emp, .int .i64 (-1)] 57)) with drawn := (w1.alloc (.cells #[.string emp, .int .i64 (-1)] 57)).drawn + 1 } : World) = (w1.alloc (.cells #[.string emp, .int .i64 (-1)] 57)).drew from rfl]
 refine takeH (i := 0) (v := ?vn0) ?hyn0 HS ?restn0
 case hyn0 => (intro wx hSx; go_simp; try with_reducible rfl)
 try simp only [sx]
 refine takeH (i := 1) (v := ?vn1) ?hyn1 HS ?restn1
 case hyn1 => (intro wx hSx; go_simp; try with_reducible rfl)
 try simp only [sx]
 refine takeH (i := 2) (v := ?vn2) ?hyn2 HS ?restn2
 case hyn2 => (intro wx hSx; go_simp; try with_reducible rfl)
 try simp only [sx]
 refine takeH (i := 3) (v := ?vn3) ?hyn3 HS ?restn3
 case hyn3 => (intro wx hSx; go_simp; try with_reducible rfl)
 try simp only [sx]
 refine takeH (i := 5) (v := ?vn5) ?hyn5 HS ?restn5
 case hyn5 => (intro wx hSx; obtain ⟨q0, q1, q2⟩ := HB.out _ hSx; go_simp; try with_reducible rfl)
 try simp only [sx]
 refine takeH (i := 6) (v := ?vn6) ?hyn6 HS ?restn6
 case hyn6 => (intro wx hSx; obtain ⟨q0, q1, q2⟩ := HB.out _ hSx; go_simp; try with_reducible rfl)
 try simp only [sx]
 refine takeH (i := 7) (v := ?vn7) ?hyn7 HS ?restn7
 case hyn7 => (intro wx hSx; go_simp; try with_reducible rfl)
 try simp only [sx]
 refine held_one (i := 4) (by kernel_rfl) rfl rfl (fun K hK => ?_)
 go_simp
 refine (clone_any p.own (by have := HO.out; omega) _).mono ?_
 rintro e w3 ⟨rfl, HX3⟩
 have HSb := HS.trans HX3
 try go_simp
 refine hK.out _ _ ⟨HSb, ?_⟩
 clear hK K
 try simp only [sx]
 refine takeH (i := 8) (v := ?vn8) ?hyn8 HSb ?restn8
 case hyn8 => (intro wx hSx; refine exec_build (cells := (nwc p.n p.me p.ht p.own (.pointer (some a))).toArray) 64 ?pt8 ?ho8 ?hf8; (case ho8 => rfl); (case hf8 => kernel_rfl))
 try simp only [sx]
 refine held_one (i := 9) (by kernel_rfl) rfl rfl (fun K hK => ?_)
 go_simp
 have HF : Hid (NewAP p w (.returned (.pointer (some ⟨w3.heap.size, 0, none⟩))) (w3.alloc (.cells (nwc p.n p.me p.ht p.own (.pointer (some a))).toArray 64))) := nw_ab (HV.out.ext (((Ext.refl w1).alloc _).trans HSb)) HG.out (HX1.out.trans (((Ext.refl w1).alloc _).trans HSb))
 have HSbc := HSb.alloc (.cells (nwc p.n p.me p.ht p.own (.pointer (some a))).toArray 64)
 generalize w3.alloc (.cells (nwc p.n p.me p.ht p.own (.pointer (some a))).toArray 64) = w4 at *
 try go_simp
 refine hK.out _ _ ⟨HSbc, ?_⟩
 clear hK K
 try simp only [sx]
 refine takeH (i := 10) (v := ?vn10) ?hyn10 HSbc ?restn10
 case hyn10 => (intro wx hSx; go_simp; try with_reducible rfl)
 try simp only [sx]
 refine wpAnyH_done (by kernel_rfl) ?_ _
 refine NoPanic.normal ?_
 go_wp2
 go_ret
 exact HF.out
theorem aat_nil (w : World) : Calls Try.prog 19 #[.pointer none] w fun e w' => e = .returned (.tuple #[.int .i64 0, .int .i64 0]) ∧ Ext w w' := by
 go_enter Try.func19, Try.ntmps19
 go_wp2
 refine bodyPost_ret (v := .tuple #[.int .i64 0, .int .i64 0]) (by simp [results, Try.results19, go_sem]) rfl ⟨rfl, Ext.refl _⟩
theorem alocked_nil (w : World) : Calls Try.prog 20 #[.pointer none] w fun e w' => e = .returned (.tuple #[.string emp, .int .i64 0]) ∧ Ext w w' := by
 go_enter Try.func20, Try.ntmps20
 go_wp2
 refine bodyPost_ret (v := .tuple #[.string emp, .int .i64 0]) (by simp [results, Try.results20, go_sem]) rfl ⟨rfl, Ext.refl _⟩
theorem adecided_nil (w : World) : Calls Try.prog 21 #[.pointer none] w fun e w' => e = .returned (.tuple #[.string emp, .bool false]) ∧ Ext w w' := by
 go_enter Try.func21, Try.ntmps21
 go_wp2
 refine bodyPost_ret (v := .tuple #[.string emp, .bool false]) (by simp [results, Try.results21, go_sem]) rfl ⟨rfl, Ext.refl _⟩
section
variable {W : World} {b : Nat} {p : Pm} {s : Ag} {vp f : Value} {G : Nat → Prop}
theorem aat_any (h : AB W b p s vp f G) : Calls Try.prog 19 #[.pointer (some ⟨b, 0, none⟩)] W fun e w' => e = .returned (.tuple #[.int .i64 s.rd, .int .i64 s.st]) ∧ Ext W w' := by
 obtain ⟨hb, _, _, _, c4, c5, _⟩ := h.at
 clear h
 go_enter Try.func19, Try.ntmps19
 go_wp2_with fail
 go_quiet (fail)
 go_wp2
 refine bodyPost_ret (v := .tuple #[.int .i64 s.rd, .int .i64 s.st]) (by simp [results, Try.results19, go_sem]) rfl ⟨rfl, (Ext.refl _).drewN _⟩
set_option maxHeartbeats 2000000 in
theorem alocked_any (h : AB W b p s vp f G) (hi : InvA p s) : Calls Try.prog 20 #[.pointer (some ⟨b, 0, none⟩)] W fun e w' => e = .returned (.tuple #[.string s.lk, .int .i64 s.lr]) ∧ Ext W w' := by
 have HB : Hid (∀ wx, Ext W wx → b < wx.heap.size ∧ wx.cell? ⟨b, 6, none⟩ = some (.string s.lk) ∧ wx.cell? ⟨b, 7, none⟩ = some (.int .i64 s.lr)) := fun wx hx => by
  obtain ⟨hb, _, _, _, _, _, c6, c7, _⟩ := (h.ext hx).at
  exact ⟨hb, c6, c7⟩
 have HL : Hid (s.lk.size ≤ 4096) := hi.lk
 have HS : Ext W W.drew := (Ext.refl W).drew
 clear h hi
 go_enter Try.func20, Try.ntmps20
 go_wp2_with fail
 refine wp_region_noPanic ?_
 refine wp_region_held (S := Ext W) (by kernel_rfl) ?_
 rw [show ({ W with drawn := W.drawn + 1 } : World) = W.drew from rfl]
 refine takeH (i := 0) (v := ?vk0) ?hyk0 HS ?restk0
 case hyk0 => (intro wx hSx; go_simp; try with_reducible rfl)
 try simp only [sx]
 refine takeH (i := 1) (v := ?vk1) ?hyk1 HS ?restk1
 case hyk1 => (intro wx hSx; go_simp; try with_reducible rfl)
 try simp only [sx]
 refine takeH (i := 2) (v := ?vk2) ?hyk2 HS ?restk2
 case hyk2 => (intro wx hSx; go_simp; try with_reducible rfl)
 try simp only [sx]
 refine takeH (i := 3) (v := ?vk3) ?hyk3 HS ?restk3
 case hyk3 => (intro wx hSx; go_simp; try with_reducible rfl)
 try simp only [sx]
 refine takeH (i := 4) (v := ?vk4) ?hyk4 HS ?restk4
 case hyk4 => (intro wx hSx; obtain ⟨q0, q1, q2⟩ := HB.out _ hSx; go_simp; try with_reducible rfl)
 try simp only [sx]
 refine takeH (i := 6) (v := ?vk6) ?hyk6 HS ?restk6
 case hyk6 => (intro wx hSx; go_simp; try with_reducible rfl)
 try simp only [sx]
 refine takeH (i := 7) (v := ?vk7) ?hyk7 HS ?restk7
 case hyk7 => (intro wx hSx; go_simp; try with_reducible rfl)
 try simp only [sx]
 refine takeH (i := 8) (v := ?vk8) ?hyk8 HS ?restk8
 case hyk8 => (intro wx hSx; go_simp; try with_reducible rfl)
 try simp only [sx]
 refine takeH (i := 9) (v := ?vk9) ?hyk9 HS ?restk9
 case hyk9 => (intro wx hSx; go_simp; try with_reducible rfl)
 try simp only [sx]
 refine takeH (i := 10) (v := ?vk10) ?hyk10 HS ?restk10
 case hyk10 => (intro wx hSx; obtain ⟨q0, q1, q2⟩ := HB.out _ hSx; go_simp; try with_reducible rfl)
 try simp only [sx]
 refine held_one (i := 5) (by kernel_rfl) rfl rfl (fun K hK => ?_)
 go_simp
 refine (clone_any s.lk (by have := HL.out; omega) _).mono ?_
 rintro e w3 ⟨rfl, HX3⟩
 have HSb := HS.trans HX3
 try go_simp
 refine hK.out _ _ ⟨HSb, ?_⟩
 clear hK K
 try simp only [sx]
 refine takeH (i := 11) (v := ?vk11) ?hyk11 HSb ?restk11
 case hyk11 => (intro wx hSx; go_simp; try with_reducible rfl)
 try simp only [sx]
 refine takeH (i := 12) (v := ?vk12) ?hyk12 HSb ?restk12
 case hyk12 => (intro wx hSx; go_simp; try with_reducible rfl)
 try simp only [sx]
 refine wpAnyH_done (by kernel_rfl) ?_ _
 refine NoPanic.normal ?_
 go_wp2
 refine bodyPost_ret (v := .tuple #[.string s.lk, .int .i64 s.lr]) (by simp [results, Try.results20, go_sem]) rfl ⟨rfl, HSb⟩
set_option maxHeartbeats 2000000 in
theorem adecided_not (h : AB W b p s vp f G) (hi : InvA p s) (h0 : s.dc.size = 0) : Calls Try.prog 21 #[.pointer (some ⟨b, 0, none⟩)] W fun e w' => e = .returned (.tuple #[.string s.dc, .bool false]) ∧ Ext W w' := by
 have HB : Hid (∀ wx, Ext W wx → b < wx.heap.size ∧ wx.cell? ⟨b, 139, none⟩ = some (.string s.dc)) := fun wx hx => by
  obtain ⟨hb, _, _, _, _, _, _, _, c, _⟩ := (h.ext hx).at
  exact ⟨hb, c⟩
 have HL : Hid (s.dc.size ≤ 4096) := hi.dc.1
 have HS : Ext W W.drew := (Ext.refl W).drew
 have q4 := isEmpty_nil h0
 have q5 := toList_nil h0
 clear h hi h0
 go_enter Try.func21, Try.ntmps21
 go_wp2_with fail
 refine wp_region_noPanic ?_
 refine wp_region_held (S := Ext W) (by kernel_rfl) ?_
 rw [show ({ W with drawn := W.drawn + 1 } : World) = W.drew from rfl]
 refine takeH (i := 0) (v := ?vk0) ?hyk0 HS ?restk0
 case hyk0 => (intro wx hSx; go_simp; try with_reducible rfl)
 try simp only [sx]
 refine takeH (i := 1) (v := ?vk1) ?hyk1 HS ?restk1
 case hyk1 => (intro wx hSx; go_simp; try with_reducible rfl)
 try simp only [sx]
 refine takeH (i := 2) (v := ?vk2) ?hyk2 HS ?restk2
 case hyk2 => (intro wx hSx; go_simp; try with_reducible rfl)
 try simp only [sx]
 refine takeH (i := 3) (v := ?vk3) ?hyk3 HS ?restk3
 case hyk3 => (intro wx hSx; obtain ⟨q0, q1⟩ := HB.out _ hSx; go_simp; try with_reducible rfl)
 try simp only [sx]
 refine takeH (i := 5) (v := ?vk5) ?hyk5 HS ?restk5
 case hyk5 => (intro wx hSx; go_simp; try with_reducible rfl)
 try simp only [sx]
 refine takeH (i := 6) (v := ?vk6) ?hyk6 HS ?restk6
 case hyk6 => (intro wx hSx; go_simp; try with_reducible rfl)
 try simp only [sx]
 refine takeH (i := 7) (v := ?vk7) ?hyk7 HS ?restk7
 case hyk7 => (intro wx hSx; go_simp; try with_reducible rfl)
 try simp only [sx]
 refine takeH (i := 8) (v := ?vk8) ?hyk8 HS ?restk8
 case hyk8 => (intro wx hSx; obtain ⟨q0, q1⟩ := HB.out _ hSx; go_simp; try with_reducible rfl)
 try simp only [sx]
 refine takeH (i := 9) (v := ?vk9) ?hyk9 HS ?restk9
 case hyk9 => (intro wx hSx; go_simp; try with_reducible rfl)
 try simp only [sx]
 refine held_one (i := 4) (by kernel_rfl) rfl rfl (fun K hK => ?_)
 go_simp
 refine (clone_any s.dc (by have := HL.out; omega) _).mono ?_
 rintro e w3 ⟨rfl, HX3⟩
 have HSb := HS.trans HX3
 try go_simp
 refine hK.out _ _ ⟨HSb, ?_⟩
 clear hK K
 try simp only [sx]
 refine takeH (i := 10) (v := ?vk10) ?hyk10 HSb ?restk10
 case hyk10 => (intro wx hSx; go_simp; try with_reducible rfl)
 try simp only [sx]
 refine takeH (i := 11) (v := ?vk11) ?hyk11 HSb ?restk11
 case hyk11 => (intro wx hSx; go_simp; try with_reducible rfl)
 try simp only [sx]
 refine wpAnyH_done (by kernel_rfl) ?_ _
 refine NoPanic.normal ?_
 go_wp2
 refine bodyPost_ret (v := .tuple #[.string s.dc, .bool false]) (by simp [results, Try.results21, go_sem]) rfl ⟨rfl, HSb⟩
set_option maxHeartbeats 2000000 in
theorem adecided_yes (h : AB W b p s vp f G) (hi : InvA p s) (h0 : s.dc.size ≠ 0) : Calls Try.prog 21 #[.pointer (some ⟨b, 0, none⟩)] W fun e w' => e = .returned (.tuple #[.string s.dc, .bool true]) ∧ Ext W w' := by
 have HB : Hid (∀ wx, Ext W wx → b < wx.heap.size ∧ wx.cell? ⟨b, 139, none⟩ = some (.string s.dc)) := fun wx hx => by
  obtain ⟨hb, _, _, _, _, _, _, _, c, _⟩ := (h.ext hx).at
  exact ⟨hb, c⟩
 have HL : Hid (s.dc.size ≤ 4096) := hi.dc.1
 have HS : Ext W W.drew := (Ext.refl W).drew
 have q4 := isEmpty_some h0
 have q5 := toList_some h0
 clear h hi h0
 go_enter Try.func21, Try.ntmps21
 go_wp2_with fail
 refine wp_region_noPanic ?_
 refine wp_region_held (S := Ext W) (by kernel_rfl) ?_
 rw [show ({ W with drawn := W.drawn + 1 } : World) = W.drew from rfl]
 refine takeH (i := 0) (v := ?vk0) ?hyk0 HS ?restk0
 case hyk0 => (intro wx hSx; go_simp; try with_reducible rfl)
 try simp only [sx]
 refine takeH (i := 1) (v := ?vk1) ?hyk1 HS ?restk1
 case hyk1 => (intro wx hSx; go_simp; try with_reducible rfl)
 try simp only [sx]
 refine takeH (i := 2) (v := ?vk2) ?hyk2 HS ?restk2
 case hyk2 => (intro wx hSx; go_simp; try with_reducible rfl)
 try simp only [sx]
 refine takeH (i := 3) (v := ?vk3) ?hyk3 HS ?restk3
 case hyk3 => (intro wx hSx; obtain ⟨q0, q1⟩ := HB.out _ hSx; go_simp; try with_reducible rfl)
 try simp only [sx]
 refine takeH (i := 5) (v := ?vk5) ?hyk5 HS ?restk5
 case hyk5 => (intro wx hSx; go_simp; try with_reducible rfl)
 try simp only [sx]
 refine takeH (i := 6) (v := ?vk6) ?hyk6 HS ?restk6
 case hyk6 => (intro wx hSx; go_simp; try with_reducible rfl)
 try simp only [sx]
 refine takeH (i := 7) (v := ?vk7) ?hyk7 HS ?restk7
 case hyk7 => (intro wx hSx; go_simp; try with_reducible rfl)
 try simp only [sx]
 refine takeH (i := 8) (v := ?vk8) ?hyk8 HS ?restk8
 case hyk8 => (intro wx hSx; obtain ⟨q0, q1⟩ := HB.out _ hSx; go_simp; try with_reducible rfl)
 try simp only [sx]
 refine takeH (i := 9) (v := ?vk9) ?hyk9 HS ?restk9
 case hyk9 => (intro wx hSx; go_simp; try with_reducible rfl)
 try simp only [sx]
 refine held_one (i := 4) (by kernel_rfl) rfl rfl (fun K hK => ?_)
 go_simp
 refine (clone_any s.dc (by have := HL.out; omega) _).mono ?_
 rintro e w3 ⟨rfl, HX3⟩
 have HSb := HS.trans HX3
 try go_simp
 refine hK.out _ _ ⟨HSb, ?_⟩
 clear hK K
 try simp only [sx]
 refine takeH (i := 10) (v := ?vk10) ?hyk10 HSb ?restk10
 case hyk10 => (intro wx hSx; go_simp; try with_reducible rfl)
 try simp only [sx]
 refine takeH (i := 11) (v := ?vk11) ?hyk11 HSb ?restk11
 case hyk11 => (intro wx hSx; go_simp; try with_reducible rfl)
 try simp only [sx]
 refine wpAnyH_done (by kernel_rfl) ?_ _
 refine NoPanic.normal ?_
 go_wp2
 refine bodyPost_ret (v := .tuple #[.string s.dc, .bool true]) (by simp [results, Try.results21, go_sem]) rfl ⟨rfl, HSb⟩
theorem adecided_any (h : AB W b p s vp f G) (hi : InvA p s) : Calls Try.prog 21 #[.pointer (some ⟨b, 0, none⟩)] W fun e w' => e = .returned (.tuple #[.string s.dc, .bool s.dn]) ∧ Ext W w' := by
 by_cases q : s.dn = true
 ·rw [q]; exact adecided_yes h hi (hi.dc.2.1 q)
 ·have e : s.dc.size = 0 := Classical.byContradiction fun z => q (hi.dc.2.2 z)
  have q2 : s.dn = false := by simpa using q
  rw [q2]; exact adecided_not h hi e
end
end Go.Proofs.Ytmanacbdldfmfaa

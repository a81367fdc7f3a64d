/-
  A letter is struck: slices.Delete, called.
  A letter that goes out: out, called.
-/
import Derived.Test.YtkfpmjepeikpjaaCoB
namespace Go.Proofs.Ytkfpmjepeikpjaa
open Go.RowKit Go.Maps
set_option maxRecDepth 10000
theorem wp_app_run {P : Program} {w w' : World} {o : Oper} {a : Act} {K : Act → World → Prop} {Q : Exit → Act → World → Prop} (s x : Operand) (t : TypeId) (ho : o.op = .call { callee := .builtin .append, args := #[s, x], argTypes := #[t, t] }) {v u r : Value} (hs : a.eval s = v) (hx : a.eval x = u)
  (hr : ∀ ty, (Builtin.append_ #[t, t] ty #[v, u]).run P w = .ok r w') (h : K (a.put o.dst r) w') : o.wp P a w K Q := by
 unfold Oper.wp execOp
 simp only [ho, resolve, invoke, builtin, Sem.run_bind, Sem.run_pure, Result.andThen_ok, List.map_toArray, List.map_cons, List.map_nil, hs, hx, hr]
 exact h
set_option maxHeartbeats 2000000 in
theorem del_any {W : World} {base g n cap : Nat} {L : List (Nat × Vt)} (h : W.ownsRow base 57 6 (.slice (some ⟨g, 0, none⟩) n cap) n (lcs L)) {i : Nat} (hi : i < n) (hn : n ≤ 4096) :
  Calls Try.prog 32 #[.slice (some ⟨g, 0, none⟩) n cap, .int .i64 (i : Int), .int .i64 ((i : Int) + 1)] W fun e w' => e = .returned (.slice (some ⟨g, 0, none⟩) (n - 1) cap) ∧ w'.ownsRow base 57 6 (.slice (some ⟨g, 0, none⟩) (n - 1) cap) (n - 1) (lcs (L.eraseIdx i)) ∧ W.grownBy w' (some g) := by
 obtain ⟨A, hA⟩ : ∃ A : Addr, A = if cap = i + 1 then ⟨g, 0, none⟩ else ⟨g, (i + 1) * 6, none⟩ := ⟨_, rfl⟩
 obtain ⟨hlen, hnc, hcm, w1, w2, hap, hcl, hown, hgr⟩ := del_steps (W := W.drew) (own_ext h (Ext.refl W).drew) hi A hA
 obtain ⟨k, hk⟩ : ∃ k, n = k + 1 := ⟨n - 1, by omega⟩
 subst hk
 rw [Nat.add_sub_cancel] at hap hcl hown ⊢
 rw [Nat.add_sub_add_right] at hap
 have hik : i ≤ k := by omega
 have e1 : (if cap = i + 1 then some (⟨g, 0, none⟩ : Addr) else some ⟨g, (i + 1) * 6, none⟩) = some A := by rw [hA]; split <;> rfl
 have HF : Hid (w2.ownsRow base 57 6 (.slice (some ⟨g, 0, none⟩) k cap) k (lcs (L.eraseIdx i)) ∧ W.grownBy w2 (some g)) := ⟨hown, ⟨hgr.os, hgr.tape, hgr.output, hgr.size, hgr.block⟩⟩
 have hcm2 : cap ≤ 9223372036854775807 := by simp only [maxLen] at hcm; omega
 have hic : i ≤ cap := by omega
 have hjn : i + 1 ≤ k + 1 := hi
 have j0 : (0 : Int) ≤ (i : Int) + 1 := by omega
 have j1 : (i : Int) + 1 ≤ ((k + 1 : Nat) : Int) := by omega
 have k1 : k ≤ cap := by omega
 have k2 : ¬ cap = k := by omega
 have k3 : k + 1 - k = 1 := by omega
 clear h hlen hown hgr hcm hA
 go_enter Try.func32, Try.ntmps32
 go_wp2_with fail
 refine wp_region_noPanic ?_
 refine wp_region_any (by kernel_rfl) ?_
 rw [show ({ W with drawn := W.drawn + 1 } : World) = W.drew from rfl]
 refine takeN (i := 0) (v := ?vs0) ?hys0 ?rests0
 case hys0 => (intro wx; go_simp; try with_reducible rfl)
 try simp only [sx]
 refine takeN (i := 1) (v := ?vs1) ?hys1 ?rests1
 case hys1 => (intro wx; go_simp; try with_reducible rfl)
 try simp only [sx]
 refine takeN (i := 2) (v := ?vs2) ?hys2 ?rests2
 case hys2 => (intro wx; go_simp; try with_reducible rfl)
 try simp only [sx]
 refine takeN (i := 3) (v := ?vs3) ?hys3 ?rests3
 case hys3 => (intro wx; go_simp; try with_reducible rfl)
 try simp only [sx]
 refine takeN (i := 4) (v := ?vs4) ?hys4 ?rests4
 case hys4 => (intro wx; go_simp; try with_reducible rfl)
 try simp only [sx]
 refine takeN (i := 5) (v := ?vs5) ?hys5 ?rests5
 case hys5 => (intro wx; go_simp; try with_reducible rfl)
 try simp only [sx]
 refine any_one (i := 6) (by kernel_rfl) rfl rfl (fun K hK => ?_)
 refine wp_app_run (.tmp 22) (.tmp 25) 46 rfl rfl rfl hap ?_
 refine hK.out _ _ ?_
 clear hK K hap
 try simp only [sx]
 refine takeN (i := 7) (v := ?vs7) ?hys7 ?rests7
 case hys7 => (intro wx; go_simp; try with_reducible rfl)
 try simp only [sx]
 refine wpAny_done (by kernel_rfl) ?_ _
 refine NoPanic.normal ?_
 go_wp2
 go_ret
 exact ⟨rfl, HF.out⟩
end Go.Proofs.Ytkfpmjepeikpjaa
namespace Go.Proofs.Ytkfpmjepeikpjaa
open Go.RowKit Go.Maps
set_option maxRecDepth 10000
/-- A cell of a block that is nobody's. -/
theorem CO.poke {w W : World} {cb mb mn : Nat} {q : Cp} {nd : List Ag} {wy : List (Nat × Vt)} {lv : Nat → Bool} {dec : Nat → ByteArray} {M : Value} {P lab : Nat → Nat} (h : CO w W cb mb q nd wy mn lv dec M P lab) {b : Nat} (hl : lab b = 0) (hb : w.heap.size ≤ b) (i : Nat) (v : Value) : CO w (W.setCell ⟨b, i, none⟩ v) cb mb q nd wy mn lv dec M P lab := by
 have ot : ∀ k, lab k ≠ 0 → (W.setCell ⟨b, i, none⟩ v).heap[k]? = W.heap[k]? := fun k hk => Below.heap_setCell W ⟨b, i, none⟩ v k (fun e => hk (by have e : k = b := e; rw [e]; exact hl))
 refine ⟨h.old.st hb, h.blk.keep (by simp) (ot cb (by rw [h.lc]; decide)), h.map.keep (ot mb (by rw [h.lm]; decide)), own_keep h.mail (fun k z => ot k (by rw [h.lr k z]; decide)), h.cap, h.cbn, h.mbn, h.lc, h.lm, h.lr, fun j s a c => ?_, h.prn, h.lvl, h.len⟩
 obtain ⟨vp, ha⟩ := h.prt j s a c
 exact ⟨vp, ha.keep (by simp) fun k z => ot k (by have z : lab k = 4 + j := z; omega)⟩
theorem at_nums (i : Int) {n : Nat} (hn : 0 < n) : Int.tmod (Int.tmod i (n : Int) + (n : Int)) (n : Int) = i % (n : Int) := by
 have h1 : Int.tmod i (n : Int) = i - (n : Int) * Int.tdiv i n := Int.tmod_def i n
 have h2 : -(n : Int) < Int.tmod i (n : Int) := Int.lt_tmod_of_pos _ (by omega)
 rw [Int.tmod_eq_emod_of_nonneg (by omega), h1, show i - (n : Int) * Int.tdiv i n + (n : Int) = i + (n : Int) * (1 - Int.tdiv i n) from by rw [Int.mul_sub]; omega, Int.add_mul_emod_self_left]
abbrev zlv : Value := .agg #[.int .i64 0, .int .i64 0, .int .i64 0, .int .i64 0, .int .i64 0, .string ⟨#[]⟩]
abbrev lvv (x : Nat × Vt) : Value := .agg #[.int .i64 (x.1 : Int), .int .i64 x.2.kd, .int .i64 x.2.fr, .int .i64 x.2.rd, .int .i64 x.2.va, .string x.2.vl]
theorem blk_zl (W : World) : Blk (W.alloc (.cells #[.int .i64 0, .int .i64 0, .int .i64 0, .int .i64 0, .int .i64 0, .string ⟨#[]⟩] 57)) W.heap.size 6 (fun i => zl.getD i undef) := Blk.new W _ 57 fun i hi => by
 match i, hi with
 | 0, _ => rfl
 | 1, _ => rfl
 | 2, _ => rfl
 | 3, _ => rfl
 | 4, _ => rfl
 | 5, _ => rfl
theorem out_zero {W : World} (p : Value) (i : Int) (hw : ∀ wx, Ext W wx → Calls Try.prog 14 #[p] wx fun e w' => e = .returned (.int .i64 0) ∧ w' = wx) : Calls Try.prog 23 #[p, .int .i64 i] W fun e w' => e = .returned (.tuple #[zlv, .bool false]) ∧ Ext W w' := by
 have HW : Hid (∀ wx, Ext W wx → Calls Try.prog 14 #[p] wx fun e w' => e = .returned (.int .i64 0) ∧ w' = wx) := hw
 obtain ⟨X, hX⟩ : ∃ X, W.alloc (.cells #[.int .i64 0, .int .i64 0, .int .i64 0, .int .i64 0, .int .i64 0, .string ⟨#[]⟩] 57) = X := ⟨_, rfl⟩
 have HE : Hid (Ext W X) := by rw [← hX]; exact (Ext.refl W).alloc _
 obtain ⟨bx, hbx⟩ : ∃ bx, W.heap.size = bx := ⟨_, rfl⟩
 have HBx : Hid (Blk X bx 6 (fun i => zl.getD i undef) ∧ W.heap.size ≤ bx) := by
  rw [← hX, ← hbx]
  exact ⟨blk_zl W, Nat.le_refl _⟩
 clear hw
 go_enter Try.func23, Try.ntmps23
 go_wp2_with fail
 clear hX hbx
 refine (HW.out _ HE.out).mono ?_
 rintro e w1 ⟨rfl, rfl⟩
 have hb := HBx.out.1
 have hl := hb.1
 have c0 := hb.2 0 (by decide)
 have c1 := hb.2 1 (by decide)
 have c2 := hb.2 2 (by decide)
 have c3 := hb.2 3 (by decide)
 have c4 := hb.2 4 (by decide)
 have c5 := hb.2 5 (by decide)
 obtain ⟨c0, z0⟩ := c0
 obtain ⟨c1, z1⟩ := c1
 obtain ⟨c2, z2⟩ := c2
 obtain ⟨c3, z3⟩ := c3
 obtain ⟨c4, z4⟩ := c4
 obtain ⟨c5, z5⟩ := c5
 clear hb
 go_wp2
 have HY := (((((HBx.out.1.put (i := 0) (by decide) (.int .i64 0)).put (i := 1) (by decide) (.int .i64 0)).put (i := 2) (by decide) (.int .i64 0)).put (i := 3) (by decide) (.int .i64 0)).put (i := 4) (by decide) (.int .i64 0)).put (i := 5) (by decide) (.string ⟨#[]⟩)
 have HE6 : Hid (Ext W ((((((w1.setCell ⟨bx, 0, none⟩ (.int .i64 0)).setCell ⟨bx, 1, none⟩ (.int .i64 0)).setCell ⟨bx, 2, none⟩ (.int .i64 0)).setCell ⟨bx, 3, none⟩ (.int .i64 0)).setCell ⟨bx, 4, none⟩ (.int .i64 0)).setCell ⟨bx, 5, none⟩ (.string ⟨#[]⟩))) := (((((HE.out.st HBx.out.2).st HBx.out.2).st HBx.out.2).st HBx.out.2).st HBx.out.2).st HBx.out.2
 clear c0 c1 c2 c3 c4 c5 z0 z1 z2 z3 z4 z5 hl
 generalize ((((((w1.setCell ⟨bx, 0, none⟩ (.int .i64 0)).setCell ⟨bx, 1, none⟩ (.int .i64 0)).setCell ⟨bx, 2, none⟩ (.int .i64 0)).setCell ⟨bx, 3, none⟩ (.int .i64 0)).setCell ⟨bx, 4, none⟩ (.int .i64 0)).setCell ⟨bx, 5, none⟩ (.string ⟨#[]⟩)) = Y at *
 have hl := HY.1
 have d0 : Y.cell? ⟨bx, 0, none⟩ = some (.int .i64 0) := (HY.2 0 (by decide)).1
 have d1 : Y.cell? ⟨bx, 1, none⟩ = some (.int .i64 0) := (HY.2 1 (by decide)).1
 have d2 : Y.cell? ⟨bx, 2, none⟩ = some (.int .i64 0) := (HY.2 2 (by decide)).1
 have d3 : Y.cell? ⟨bx, 3, none⟩ = some (.int .i64 0) := (HY.2 3 (by decide)).1
 have d4 : Y.cell? ⟨bx, 4, none⟩ = some (.int .i64 0) := (HY.2 4 (by decide)).1
 have d5 : Y.cell? ⟨bx, 5, none⟩ = some (.string ⟨#[]⟩) := (HY.2 5 (by decide)).1
 clear HY
 refine bodyPost_ret (v := .tuple #[zlv, .bool false]) ?_ rfl ⟨rfl, HE6.out⟩
 simp [results, Try.results23, go_sem, d0, d1, d2, d3, d4, d5]
theorem blk_lv (W : World) (x : Nat × Vt) : Blk (W.alloc (.cells #[.int .i64 (x.1 : Int), .int .i64 x.2.kd, .int .i64 x.2.fr, .int .i64 x.2.rd, .int .i64 x.2.va, .string x.2.vl] 57)) W.heap.size 6 (fun i => (lcs [x]).getD i undef) := Blk.new W _ 57 fun i hi => by
 match i, hi with
 | 0, _ => rfl
 | 1, _ => rfl
 | 2, _ => rfl
 | 3, _ => rfl
 | 4, _ => rfl
 | 5, _ => rfl
set_option maxHeartbeats 4000000 in
theorem out_some {w W W0 : World} {cb mn : Nat} {q : Cp} {nd : List Ag} {wy : List (Nat × Vt)} {lv : Nat → Bool} {dec : Nat → ByteArray} {P : Nat → Nat} {F : Nat → Prop} (h : CX w cb q nd wy mn lv dec P F W0 W) (i : Int) {x : Nat × Vt} (hx : wy[(i % (wy.length : Int)).toNat]? = some x) :
  Calls Try.prog 23 #[.pointer (some ⟨cb, 0, none⟩), .int .i64 i] W fun e w' => e = .returned (.tuple #[lvv x, .bool true]) ∧ CX w cb q nd (wy.eraseIdx (i % (wy.length : Int)).toNat) mn lv dec P F W0 w' := by
 have hcap := h.cap
 obtain ⟨mb, M, lab, hc, hs, hf⟩ := h
 obtain ⟨A, hA⟩ : ∃ A, (i % (wy.length : Int)).toNat = A := ⟨_, rfl⟩
 rw [hA] at hx ⊢
 have hAl : A < wy.length := (List.getElem?_eq_some_iff.1 hx).1
 have hpos : 0 < wy.length := by omega
 have hA2 : i % (wy.length : Int) = (A : Int) := by have := Int.emod_nonneg i (show (wy.length : Int) ≠ 0 by omega); omega
 have t1 := Int.lt_tmod_of_pos i (show (0 : Int) < (wy.length : Int) by omega)
 have t2 := Int.tmod_lt_of_pos i (show (0 : Int) < (wy.length : Int) by omega)
 have t3 := at_nums i hpos
 rw [hA2] at t3
 obtain ⟨z, hz⟩ : ∃ z, Int.tmod i (wy.length : Int) = z := ⟨_, rfl⟩
 rw [hz] at t1 t2 t3
 -- the row of letters
 obtain ⟨a, c, eM, c10⟩ := hc.mcell
 subst eM
 obtain ⟨g, ea⟩ : ∃ g, a = some ⟨g, 0, none⟩ := by
  rcases hc.mail.2 with ⟨_, e⟩ | ⟨g, _, _, e, _⟩
  · omega
  · injection e with e _ _; exact ⟨g, e⟩
 subst ea
 have hcells := hc.mail.cells (g := g) rfl
 obtain ⟨g0, g1, g2, g3, g4, g5⟩ := lcs_get wy hx
 have r0 := hcells _ _ g0
 have r1 := hcells _ _ g1
 have r2 := hcells _ _ g2
 have r3 := hcells _ _ g3
 have r4 := hcells _ _ g4
 have r5 := hcells _ _ g5
 rw [add_at, Nat.zero_add] at r0 r1 r2 r3 r4 r5
 have hgl : g < W.heap.size := (hc.mail.lt g rfl).2
 have hbl := hc.blk.1
 -- the two blocks of its own
 obtain ⟨X, hX⟩ : ∃ X, W.alloc (.cells #[.int .i64 0, .int .i64 0, .int .i64 0, .int .i64 0, .int .i64 0, .string ⟨#[]⟩] 57) = X := ⟨_, rfl⟩
 have hx1 : Ext W X := by rw [← hX]; exact (Ext.refl W).alloc _
 obtain ⟨bx, hbx⟩ : ∃ bx, W.heap.size = bx := ⟨_, rfl⟩
 have hbz : Blk X bx 6 (fun i => zl.getD i undef) := by rw [← hX, ← hbx]; exact blk_zl W
 have hcX := (hc.relab (lab' := fun k => if W.heap.size ≤ k then 0 else lab k) (fun k hk => if_neg (by omega)) (fun k hk => if_pos hk)).ext hx1
 rw [hbx] at hcX
 obtain ⟨X2, hX2⟩ : ∃ X2, X.alloc (.cells #[.int .i64 (x.1 : Int), .int .i64 x.2.kd, .int .i64 x.2.fr, .int .i64 x.2.rd, .int .i64 x.2.va, .string x.2.vl] 57) = X2 := ⟨_, rfl⟩
 have hx2 : Ext X X2 := by rw [← hX2]; exact (Ext.refl X).alloc _
 obtain ⟨by', hby⟩ : ∃ b, X.heap.size = b := ⟨_, rfl⟩
 have hbl2 : Blk X2 by' 6 (fun i => (lcs [x]).getD i undef) := by rw [← hX2, ← hby]; exact blk_lv X x
 have hbxy : bx < by' := by rw [← hby]; exact hbz.1
 have HCX : Hid (CO w X2 cb mb q nd wy mn lv dec (.slice (some ⟨g, 0, none⟩) wy.length c) P (fun k => if bx ≤ k then 0 else lab k)) := hcX.ext hx2
 have HF : Hid (∀ k, F k → k < W0.heap.size ∧ lab k = 0 ∧ k < bx ∧ X2.heap[k]? = W0.heap[k]?) := fun k hk => by
  obtain ⟨a, b, d⟩ := hf k hk
  have hk2 : k < W.heap.size := Nat.lt_of_lt_of_le a hs
  exact ⟨a, b, by rw [← hbx]; exact hk2, (Below.block (hx1.trans hx2) k hk2).trans d⟩
 have HS : Hid (W0.heap.size ≤ X2.heap.size ∧ w.heap.size ≤ bx) := ⟨Nat.le_trans hs (hx1.trans hx2).size, by rw [← hbx]; exact hc.old.size⟩
 have hbX : Blk X2 bx 6 (fun i => zl.getD i undef) := hbz.ext hx2
 have HBX : Hid (Blk X2 bx 6 (fun i => zl.getD i undef) ∧ Blk X2 by' 6 (fun i => (lcs [x]).getD i undef) ∧ bx < by' ∧ by' < X2.heap.size) := ⟨hbX, hbl2, hbxy, hbl2.1⟩
 have HW : Hid (Calls Try.prog 14 #[.pointer (some ⟨cb, 0, none⟩)] X fun e w' => e = .returned (.int .i64 (wy.length : Int)) ∧ w' = X) := waiting_at (Nat.lt_of_lt_of_le hbl hx1.size) (later hx1 c10)
 have q0 := later hx1 r0
 have q1 := later hx1 r1
 have q2 := later hx1 r2
 have q3 := later hx1 r3
 have q4 := later hx1 r4
 have q5 := later hx1 r5
 have ql : g < X.heap.size := Nat.lt_of_lt_of_le hgl hx1.size
 have qc := later hx1 c10
 have qb : cb < X.heap.size := Nat.lt_of_lt_of_le hbl hx1.size
 have HAl : Hid (A < wy.length) := hAl
 have pc := later hx2 qc
 have pb : cb < X2.heap.size := Nat.lt_of_lt_of_le qb hx2.size
 clear hcells g0 g1 g2 g3 g4 g5 r0 r1 r2 r3 r4 r5 hx hc hs hf hcX hx1 hx2 hbz hbX hbl2 hbxy c10 hgl hbl hA
 obtain ⟨n, hn⟩ : ∃ n, wy.length = n := ⟨_, rfl⟩
 have HN : Hid (wy.length = n) := hn
 rw [hn] at hcap hA2 t1 t2 t3 hz hpos hAl HCX HW qc pc HAl
 have n0 : ¬ (n : Int) = 0 := by omega
 have w1 : IntKind.i64.wrap z = z := by rw [IntKind.wrap_i64]; omega
 have w2 : IntKind.i64.wrap (z + (n : Int)) = z + (n : Int) := by rw [IntKind.wrap_i64]; omega
 have w3 : IntKind.i64.wrap (A : Int) = (A : Int) := by rw [IntKind.wrap_i64]; omega
 have w4 : IntKind.i64.wrap ((A : Int) + 1) = (A : Int) + 1 := by rw [IntKind.wrap_i64]; omega
 have a0 : (0 : Int) ≤ (A : Int) := by omega
 have a1 : (A : Int) < (n : Int) := by omega
 have HD : Hid (Calls Try.prog 32 #[.slice (some ⟨g, 0, none⟩) n c, .int .i64 (A : Int), .int .i64 ((A : Int) + 1)] X2 fun e w' => e = .returned (.slice (some ⟨g, 0, none⟩) (n - 1) c) ∧ w'.ownsRow w.heap.size 57 6 (.slice (some ⟨g, 0, none⟩) (n - 1) c) (n - 1) (lcs (wy.eraseIdx A)) ∧ X2.grownBy w' (some g)) := by
  refine del_any (L := wy) (i := A) (by have := HCX.out.mail; rw [hn] at this; exact this) hAl hcap
 have HCp : Hid (n ≤ 4096) := hcap
 clear hcap t1 t2 hA2 hAl hn
 go_enter Try.func23, Try.ntmps23
 go_wp2_with fail
 clear hX hbx
 refine HW.out.mono ?_
 rintro e w1' ⟨rfl, rfl⟩
 clear HW
 go_wp2_with fail
 clear q0 q1 q2 q3 q4 q5 ql qc qb hX2 hby hz t3 n0 w1 w2 w3 w4 a0 a1
 rename World => w1'
 refine HD.out.mono ?_
 rintro e w5 ⟨rfl, hown5, hgr5⟩
 have HR : Hid (w5.ownsRow w.heap.size 57 6 (.slice (some ⟨g, 0, none⟩) (n - 1) c) (n - 1) (lcs (wy.eraseIdx A)) ∧ X2.grownBy w5 (some g)) := ⟨hown5, hgr5⟩
 clear hown5 hgr5 HD
 have ngc : (some g : Option Nat) ≠ some cb := fun e => by
  injection e with e
  have h3 := HCX.out.lr g rfl
  have h1 := HCX.out.lc
  rw [e] at h3
  omega
 have hb5 := HCX.out.blk.grown HR.out.2 ngc
 have s0 := hb5.1
 have s1 := (hb5.2 10 (by decide)).1
 have s2 := (hb5.2 10 (by decide)).2
 have hel : (wy.eraseIdx A).length = n - 1 := by rw [List.length_eraseIdx_of_lt (by rw [HN.out]; exact HAl.out), HN.out]
 obtain ⟨hc4, h4⟩ := HCX.out.post (M' := .slice (some ⟨g, 0, none⟩) (n - 1) c) (wy' := wy.eraseIdx A) HR.out.2 (by rw [hel]; exact HR.out.1) (.inl rfl) (by rw [hel]; have := HCp.out; omega)
 obtain ⟨lab3, hl3⟩ : ∃ lab3 : Nat → Nat, (fun k => if (Value.slice (some ⟨g, 0, none⟩) (n - 1) c).ownBlock = some k then 3 else if bx ≤ k then 0 else lab k) = lab3 := ⟨_, rfl⟩
 have hl4 : ∀ k, (if (Value.slice (some ⟨g, 0, none⟩) (n - 1) c).ownBlock = some k then 3 else if bx ≤ k then 0 else lab k) = lab3 k := fun k => congrFun hl3 k
 rw [hl3] at hc4
 obtain ⟨bX, bY, bxy, byl⟩ := HBX.out
 obtain ⟨lx, hhx⟩ := h4 bx bX.1 (if_pos (Nat.le_refl _))
 obtain ⟨_, hhy⟩ := h4 by' bY.1 (if_pos (Nat.le_of_lt bxy))
 rw [hl4] at lx
 have HC4 : Hid (CO w (w5.setCell ⟨cb, 10, none⟩ (.slice (some ⟨g, 0, none⟩) (n - 1) c)) cb mb q nd (wy.eraseIdx A) mn lv dec (.slice (some ⟨g, 0, none⟩) (n - 1) c) P lab3) := hc4
 have hs4 : X2.heap.size ≤ (w5.setCell ⟨cb, 10, none⟩ (.slice (some ⟨g, 0, none⟩) (n - 1) c)).heap.size := by simpa using HR.out.2.size
 have HB4 : Hid (Blk (w5.setCell ⟨cb, 10, none⟩ (.slice (some ⟨g, 0, none⟩) (n - 1) c)) bx 6 (fun i => zl.getD i undef) ∧ Blk (w5.setCell ⟨cb, 10, none⟩ (.slice (some ⟨g, 0, none⟩) (n - 1) c)) by' 6 (fun i => (lcs [x]).getD i undef)) := ⟨bX.keep hs4 hhx, bY.keep hs4 hhy⟩
 have HL4 : Hid (lab3 bx = 0 ∧ X2.heap.size ≤ (w5.setCell ⟨cb, 10, none⟩ (.slice (some ⟨g, 0, none⟩) (n - 1) c)).heap.size) := ⟨lx, hs4⟩
 have HF4 : Hid (∀ k, F k → k < W0.heap.size ∧ lab3 k = 0 ∧ k < bx ∧ (w5.setCell ⟨cb, 10, none⟩ (.slice (some ⟨g, 0, none⟩) (n - 1) c)).heap[k]? = W0.heap[k]?) := fun k hk => by
  obtain ⟨a, b, d, e⟩ := HF.out k hk
  obtain ⟨f1, f2⟩ := h4 k (by have := bX.1; omega) (by rw [if_neg (by omega)]; exact b)
  exact ⟨a, by rw [← hl4]; exact f1, d, f2.trans e⟩
 have nxy : bx ≠ by' := Nat.ne_of_lt bxy
 clear hb5 hc4 h4 hl3 hl4 bX bY byl lx hhx hhy hs4 ngc hel
 go_upto_region 7 with fail
 clear s0 s1 s2 pb pc
 generalize w5.setCell ⟨cb, 10, none⟩ (.slice (some ⟨g, 0, none⟩) (n - 1) c) = Y4 at *
 have hb4 := HB4.out.1
 have hc4 := HB4.out.2
 have lx := hb4.1
 have ly := hc4.1
 obtain ⟨c0, z0⟩ := hb4.2 0 (by decide)
 obtain ⟨c1, z1⟩ := hb4.2 1 (by decide)
 obtain ⟨c2, z2⟩ := hb4.2 2 (by decide)
 obtain ⟨c3, z3⟩ := hb4.2 3 (by decide)
 obtain ⟨c4, z4⟩ := hb4.2 4 (by decide)
 obtain ⟨c5, z5⟩ := hb4.2 5 (by decide)
 have d0 : Y4.cell? ⟨by', 0, none⟩ = some (.int .i64 (x.1 : Int)) := (hc4.2 0 (by decide)).1
 have d1 : Y4.cell? ⟨by', 1, none⟩ = some (.int .i64 x.2.kd) := (hc4.2 1 (by decide)).1
 have d2 : Y4.cell? ⟨by', 2, none⟩ = some (.int .i64 x.2.fr) := (hc4.2 2 (by decide)).1
 have d3 : Y4.cell? ⟨by', 3, none⟩ = some (.int .i64 x.2.rd) := (hc4.2 3 (by decide)).1
 have d4 : Y4.cell? ⟨by', 4, none⟩ = some (.int .i64 x.2.va) := (hc4.2 4 (by decide)).1
 have d5 : Y4.cell? ⟨by', 5, none⟩ = some (.string x.2.vl) := (hc4.2 5 (by decide)).1
 have hC6 := ((((((HC4.out.poke HL4.out.1 HS.out.2 0 (.int .i64 (x.1 : Int))).poke HL4.out.1 HS.out.2 1 (.int .i64 x.2.kd)).poke HL4.out.1 HS.out.2 2 (.int .i64 x.2.fr)).poke HL4.out.1 HS.out.2 3 (.int .i64 x.2.rd)).poke HL4.out.1 HS.out.2 4 (.int .i64 x.2.va)).poke HL4.out.1 HS.out.2 5 (.string x.2.vl))
 have hY := ((((((HB4.out.1.put (i := 0) (by decide) (.int .i64 (x.1 : Int))).put (i := 1) (by decide) (.int .i64 x.2.kd)).put (i := 2) (by decide) (.int .i64 x.2.fr)).put (i := 3) (by decide) (.int .i64 x.2.rd)).put (i := 4) (by decide) (.int .i64 x.2.va)).put (i := 5) (by decide) (.string x.2.vl))
 have HX6 : Hid (CX w cb q nd (wy.eraseIdx A) mn lv dec P F W0 ((((((Y4.setCell ⟨bx, 0, none⟩ (.int .i64 (x.1 : Int))).setCell ⟨bx, 1, none⟩ (.int .i64 x.2.kd)).setCell ⟨bx, 2, none⟩ (.int .i64 x.2.fr)).setCell ⟨bx, 3, none⟩ (.int .i64 x.2.rd)).setCell ⟨bx, 4, none⟩ (.int .i64 x.2.va)).setCell ⟨bx, 5, none⟩ (.string x.2.vl))) := by
  refine ⟨mb, _, lab3, hC6, by simpa using Nat.le_trans HS.out.1 HL4.out.2, fun k hk => ?_⟩
  obtain ⟨a, b, d, e⟩ := HF4.out k hk
  refine ⟨a, b, ?_⟩
  rw [Below.heap_setCell _ _ _ _ (by show k ≠ bx; omega), Below.heap_setCell _ _ _ _ (by show k ≠ bx; omega), Below.heap_setCell _ _ _ _ (by show k ≠ bx; omega), Below.heap_setCell _ _ _ _ (by show k ≠ bx; omega), Below.heap_setCell _ _ _ _ (by show k ≠ bx; omega), Below.heap_setCell _ _ _ _ (by show k ≠ bx; omega)]
  exact e
 have HY : Hid (Blk ((((((Y4.setCell ⟨bx, 0, none⟩ (.int .i64 (x.1 : Int))).setCell ⟨bx, 1, none⟩ (.int .i64 x.2.kd)).setCell ⟨bx, 2, none⟩ (.int .i64 x.2.fr)).setCell ⟨bx, 3, none⟩ (.int .i64 x.2.rd)).setCell ⟨bx, 4, none⟩ (.int .i64 x.2.va)).setCell ⟨bx, 5, none⟩ (.string x.2.vl)) bx 6 _) := hY
 clear hb4 hc4 hC6 hY
 go_wp2
 clear c0 c1 c2 c3 c4 c5 z0 z1 z2 z3 z4 z5 d0 d1 d2 d3 d4 d5 lx ly
 generalize ((((((Y4.setCell ⟨bx, 0, none⟩ (.int .i64 (x.1 : Int))).setCell ⟨bx, 1, none⟩ (.int .i64 x.2.kd)).setCell ⟨bx, 2, none⟩ (.int .i64 x.2.fr)).setCell ⟨bx, 3, none⟩ (.int .i64 x.2.rd)).setCell ⟨bx, 4, none⟩ (.int .i64 x.2.va)).setCell ⟨bx, 5, none⟩ (.string x.2.vl)) = Y at *
 have hl := HY.out.1
 have d0 : Y.cell? ⟨bx, 0, none⟩ = some (.int .i64 (x.1 : Int)) := (HY.out.2 0 (by decide)).1
 have d1 : Y.cell? ⟨bx, 1, none⟩ = some (.int .i64 x.2.kd) := (HY.out.2 1 (by decide)).1
 have d2 : Y.cell? ⟨bx, 2, none⟩ = some (.int .i64 x.2.fr) := (HY.out.2 2 (by decide)).1
 have d3 : Y.cell? ⟨bx, 3, none⟩ = some (.int .i64 x.2.rd) := (HY.out.2 3 (by decide)).1
 have d4 : Y.cell? ⟨bx, 4, none⟩ = some (.int .i64 x.2.va) := (HY.out.2 4 (by decide)).1
 have d5 : Y.cell? ⟨bx, 5, none⟩ = some (.string x.2.vl) := (HY.out.2 5 (by decide)).1
 clear HY
 refine bodyPost_ret (v := .tuple #[lvv x, .bool true]) ?_ rfl ⟨rfl, HX6.out⟩
 simp [results, Try.results23, go_sem, d0, d1, d2, d3, d4, d5]
end Go.Proofs.Ytkfpmjepeikpjaa

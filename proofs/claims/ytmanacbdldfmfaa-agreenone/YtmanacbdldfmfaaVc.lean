/-
 (*votes.Votes).nodes, Ahead, called.
-/
import Derived.Test.YtmanacbdldfmfaaVm
namespace Go.Proofs.Ytmanacbdldfmfaa
set_option maxRecDepth 10000
open Go.RowKit
/-- A box's cells. -/
abbrev bcs (f : Nat → Bool) (p : Option Addr) (n c : Nat) : Array Value := #[.bool (f 0), .bool (f 1), .bool (f 2), .bool (f 3), .bool (f 4), .bool (f 5), .bool (f 6), .bool (f 7), .slice p n c]
theorem bcs_get (f : Nat → Bool) (p : Option Addr) (n c : Nat) {i : Nat} (h : i < 8) : (bcs f p n c)[i]? = some (.bool (f i)) := by
 have : i = 0 ∨ i = 1 ∨ i = 2 ∨ i = 3 ∨ i = 4 ∨ i = 5 ∨ i = 6 ∨ i = 7 := by omega
 rcases this with rfl | rfl | rfl | rfl | rfl | rfl | rfl | rfl <;> rfl
theorem bcs_one (f : Nat → Bool) (p : Option Addr) (n c : Nat) : (bcs f p n c).all (fun x => x.oneCell') = true := by
 rw [Array.all_eq_true_iff_forall_mem]
 intro x hx
 simp at hx
 rcases hx with rfl | rfl | rfl | rfl | rfl | rfl | rfl | rfl | rfl <;> rfl
/-- Two boxes, made since w. -/
structure NB (w : World) (g1 g2 : Nat) (cs1 cs2 : Array Value) (wx : World) : Prop where
 ext : Ext w wx
 b1 : wx.heap[g1]? = some (.cells cs1 91 (0, 0))
 b2 : wx.heap[g2]? = some (.cells cs2 91 (0, 0))
theorem NB.further {w wx wy : World} {g1 g2 : Nat} {cs1 cs2 : Array Value} (h : NB w g1 g2 cs1 cs2 wx) (hx : Ext wx wy) : NB w g1 g2 cs1 cs2 wy :=
 ⟨h.ext.trans hx, (Below.block hx g1 (Array.getElem?_eq_some_iff.1 h.b1).1).trans h.b1, (Below.block hx g2 (Array.getElem?_eq_some_iff.1 h.b2).1).trans h.b2⟩
theorem NB.look {w wx : World} {g1 g2 : Nat} {f1 f2 : Nat → Bool} {p1 p2 : Option Addr} {n1 c1 n2 c2 : Nat} (h : NB w g1 g2 (bcs f1 p1 n1 c1) (bcs f2 p2 n2 c2) wx) {i : Nat} (hi : i < 8) : wx.cell? ⟨g1, i, none⟩ = some (.bool (f1 i)) ∧ wx.cell? ⟨g2, i, none⟩ = some (.bool (f2 i)) ∧ g1 < wx.heap.size ∧ g2 < wx.heap.size :=
 ⟨by rw [cell_of_row _ _ _ _ _ _ h.b1]; exact bcs_get _ _ _ _ hi, by rw [cell_of_row _ _ _ _ _ _ h.b2]; exact bcs_get _ _ _ _ hi, (Array.getElem?_eq_some_iff.1 h.b1).1, (Array.getElem?_eq_some_iff.1 h.b2).1⟩
theorem heap_old {w : World} {g : Nat} {x o : Obj} (h : w.heap[g]? = some x) : (w.alloc o).heap[g]? = some x := (Below.block ((Ext.refl w).alloc o) g (Array.getElem?_eq_some_iff.1 h).1).trans h
theorem wf2 : (Lit.int .i64 2).wf = true := by decide
theorem wf3 : (Lit.int .i64 3).wf = true := by decide
theorem size53 : (Try.prog.info? 91).map (·.size) = some 9 := by kernel_rfl
theorem nds_step {L : List Vt} {N : Nat} (h : InvV N L) (r : Int) {i : Nat} (hi : 1 ≤ i) : nds L r i = nds L r (i - 1) + if (vf L 2 r i || vf L 3 r i) = true then 1 else 0 := by
 obtain ⟨j, rfl⟩ : ∃ j, i = j + 1 := ⟨i - 1, by omega⟩
 show nds L r j + _ = nds L r j + _
 unfold vf
 rw [has_two h]
 rfl
set_option maxRecDepth 10000 in
set_option maxHeartbeats 4000000 in
theorem vnodes_any {b bm : Nat} {sl : Int → Int → Value} {N T : Nat} {L : List Vt} {r : Int} (hi : InvV N L) (hN : N ≤ 7) (hr : (Lit.int .i64 r).wf = true) (w : World) (h : VB w b bm sl N T L) :
  Calls Try.prog 63 #[.pointer (some ⟨b, 0, none⟩), .int .i64 r] w fun e w' => e = .returned (.int .i64 (nds L r N : Int)) ∧ Ext w w' := by
 have HV : Hid (VB w b bm sl N T L) := h
 have Hi : Hid (InvV N L) := hi
 have HN : Hid (N ≤ 7) := hN
 obtain ⟨p2, c2, hu2⟩ := own_len (h.pls 2 r)
 obtain ⟨p3, c3, hu3⟩ := own_len (h.pls 3 r)
 obtain ⟨n2, hn2⟩ : ∃ n, (pls L 2 r).length = n := ⟨_, rfl⟩
 obtain ⟨n3, hn3⟩ : ∃ n, (pls L 3 r).length = n := ⟨_, rfl⟩
 rw [hn2] at hu2
 rw [hn3] at hu3
 have HC : Hid (∀ wx, Ext w wx → wx.cell? ⟨b, 0, none⟩ = some (.int .i64 (N : Int)) ∧ wx.cell? ⟨b, 2, none⟩ = some (.map (some bm)) ∧ b < wx.heap.size) := fun wx hx => by
  obtain ⟨q0, _, q2, q3⟩ := vbx (HV.out.ext hx)
  exact ⟨q0, q2, q3⟩
 have HL2 : Hid (∀ wx, Ext w wx → (Instr.lookup 76 (.map (some bm)) (.agg #[.int .i64 2, .int .i64 r]) false).run Try.prog wx = .ok (.agg #[.bool (vf L 2 r 0), .bool (vf L 2 r 1), .bool (vf L 2 r 2), .bool (vf L 2 r 3), .bool (vf L 2 r 4), .bool (vf L 2 r 5), .bool (vf L 2 r 6), .bool (vf L 2 r 7), .slice p2 n2 c2]) wx) := fun wx hx => by rw [(HV.out.ext hx).look wf2 hr, hu2]
 have HL3 : Hid (∀ wx, Ext w wx → (Instr.lookup 76 (.map (some bm)) (.agg #[.int .i64 3, .int .i64 r]) false).run Try.prog wx = .ok (.agg #[.bool (vf L 3 r 0), .bool (vf L 3 r 1), .bool (vf L 3 r 2), .bool (vf L 3 r 3), .bool (vf L 3 r 4), .bool (vf L 3 r 5), .bool (vf L 3 r 6), .bool (vf L 3 r 7), .slice p3 n3 c3]) wx) := fun wx hx => by rw [(HV.out.ext hx).look wf3 hr, hu3]
 clear h hi hN hu2 hu3 hn2 hn3 hr
 go_enter Try.func63, Try.ntmps63
 go_upto_region 1 with fail
 go_cut [5, 6] (fun u5 u6 wx => ∃ g1 g2 : Nat, u5 = .pointer (some ⟨g1, 0, none⟩) ∧ u6 = .pointer (some ⟨g2, 0, none⟩) ∧ Hid (NB w g1 g2 (bcs (vf L 2 r) p2 n2 c2) (bcs (vf L 3 r) p3 n3 c3) wx))
 case first =>
  have HS : Ext w w.drew := (Ext.refl w).drew
  have Hs : Hid (w.drew.heap.size = w.heap.size) := rfl
  refine wp_region_noPanic ?_
  refine wp_region_held (S := Ext w) (by kernel_rfl) ?_
  rw [show ({ w with drawn := w.drawn + 1 } : World) = w.drew from rfl]
  generalize w.drew = x0 at *
  refine takeH (i := 0) (v := ?va0) ?hya0 HS ?resta0
  case hya0 => (intro wx hSx; go_simp; try with_reducible rfl)
  try simp only [sx]
  refine takeH (i := 1) (v := ?va1) ?hya1 HS ?resta1
  case hya1 => (intro wx hSx; go_simp; try with_reducible rfl)
  try simp only [sx]
  refine takeH (i := 2) (v := ?va2) ?hya2 HS ?resta2
  case hya2 => (intro wx hSx; go_simp; try with_reducible rfl)
  try simp only [sx]
  refine takeH (i := 3) (v := ?va3) ?hya3 HS ?resta3
  case hya3 => (intro wx hSx; obtain ⟨q0, q2, q3⟩ := HC.out _ hSx; go_simp; try with_reducible rfl)
  try simp only [sx]
  refine takeH (i := 4) (v := ?va4) ?hya4 HS ?resta4
  case hya4 => (intro wx hSx; go_simp; try with_reducible rfl)
  try simp only [sx]
  refine takeH (i := 5) (v := ?va5) ?hya5 HS ?resta5
  case hya5 => (intro wx hSx; go_simp; try with_reducible rfl)
  try simp only [sx]
  refine takeH (i := 6) (v := ?va6) ?hya6 HS ?resta6
  case hya6 => (intro wx hSx; have hl := HL2.out _ hSx; go_simp; try with_reducible rfl)
  try simp only [sx]
  refine takeH (i := 7) (v := ?va7) ?hya7 HS ?resta7
  case hya7 => (intro wx hSx; go_simp; try with_reducible rfl)
  try simp only [sx]
  refine takeH (i := 8) (v := ?va8) ?hya8 HS ?resta8
  case hya8 => (intro wx hSx; go_simp; try with_reducible rfl)
  try simp only [sx]
  refine takeH (i := 9) (v := ?va9) ?hya9 HS ?resta9
  case hya9 => (intro wx hSx; go_simp; try with_reducible rfl)
  try simp only [sx]
  refine takeH (i := 10) (v := ?va10) ?hya10 HS ?resta10
  case hya10 => (intro wx hSx; obtain ⟨q0, q2, q3⟩ := HC.out _ hSx; go_simp; try with_reducible rfl)
  try simp only [sx]
  refine takeH (i := 11) (v := ?va11) ?hya11 HS ?resta11
  case hya11 => (intro wx hSx; go_simp; try with_reducible rfl)
  try simp only [sx]
  refine takeH (i := 12) (v := ?va12) ?hya12 HS ?resta12
  case hya12 => (intro wx hSx; go_simp; try with_reducible rfl)
  try simp only [sx]
  refine takeH (i := 13) (v := ?va13) ?hya13 HS ?resta13
  case hya13 => (intro wx hSx; have hl := HL3.out _ hSx; go_simp; try with_reducible rfl)
  try simp only [sx]
  refine held_two (i := 14) (k := 15) (by kernel_rfl) rfl rfl rfl rfl (fun K hK => ?_) (fun K hK => ?_)
  ·go_simp
   have H1 := HS.alloc (.cells #[.bool false, .bool false, .bool false, .bool false, .bool false, .bool false, .bool false, .bool false, .slice none 0 0] 91)
   have B1 := heap_alloc_new x0 (.cells #[.bool false, .bool false, .bool false, .bool false, .bool false, .bool false, .bool false, .bool false, .slice none 0 0] 91)
   have L1 : x0.heap.size < (x0.alloc (.cells #[.bool false, .bool false, .bool false, .bool false, .bool false, .bool false, .bool false, .bool false, .slice none 0 0] 91)).heap.size := by simp
   have M1 : w.heap.size ≤ x0.heap.size := HS.size
   generalize x0.alloc (.cells #[.bool false, .bool false, .bool false, .bool false, .bool false, .bool false, .bool false, .bool false, .slice none 0 0] 91) = x1 at *
   generalize hg1 : x0.heap.size = g1 at *
   try go_simp
   refine hK.out _ _ ⟨H1, ?_⟩
   clear hK K
   try simp only [sx]
   refine held_one (i := 15) (by kernel_rfl) rfl rfl (fun K hK => ?_)
   go_simp
   have H2 := H1.alloc (.cells #[.bool false, .bool false, .bool false, .bool false, .bool false, .bool false, .bool false, .bool false, .slice none 0 0] 91)
   have B2 := heap_alloc_new x1 (.cells #[.bool false, .bool false, .bool false, .bool false, .bool false, .bool false, .bool false, .bool false, .slice none 0 0] 91)
   have B1' := heap_old (o := .cells #[.bool false, .bool false, .bool false, .bool false, .bool false, .bool false, .bool false, .bool false, .slice none 0 0] 91) B1
   have L2 : x1.heap.size < (x1.alloc (.cells #[.bool false, .bool false, .bool false, .bool false, .bool false, .bool false, .bool false, .bool false, .slice none 0 0] 91)).heap.size := by simp
   have M2 : w.heap.size ≤ x1.heap.size := H1.size
   generalize x1.alloc (.cells #[.bool false, .bool false, .bool false, .bool false, .bool false, .bool false, .bool false, .bool false, .slice none 0 0] 91) = x2 at *
   generalize hg2 : x1.heap.size = g2 at *
   have Dn : g1 ≠ g2 := by omega
   try go_simp
   refine hK.out _ _ ⟨H2, ?_⟩
   clear hK K
   try simp only [sx]
   refine held_one (i := 16) (by kernel_rfl) rfl rfl (fun K hK => ?_)
   refine wp_store_row 91 (.tmp 5) (.tmp 15) rfl g1 #[.bool (vf L 2 r 0), .bool (vf L 2 r 1), .bool (vf L 2 r 2), .bool (vf L 2 r 3), .bool (vf L 2 r 4), .bool (vf L 2 r 5), .bool (vf L 2 r 6), .bool (vf L 2 r 7), .slice p2 n2 c2] rfl rfl 91 _ B1' size53 rfl (bcs_one _ _ _ _) ?_
   have H3 := H2.row (b := g1) (by omega) #[.bool (vf L 2 r 0), .bool (vf L 2 r 1), .bool (vf L 2 r 2), .bool (vf L 2 r 3), .bool (vf L 2 r 4), .bool (vf L 2 r 5), .bool (vf L 2 r 6), .bool (vf L 2 r 7), .slice p2 n2 c2]
   have S3 := setRow_heap x2 g1 _ #[.bool (vf L 2 r 0), .bool (vf L 2 r 1), .bool (vf L 2 r 2), .bool (vf L 2 r 3), .bool (vf L 2 r 4), .bool (vf L 2 r 5), .bool (vf L 2 r 6), .bool (vf L 2 r 7), .slice p2 n2 c2] 91 (0, 0) B1'
   have T3 := (setRow_other x2 g1 g2 #[.bool (vf L 2 r 0), .bool (vf L 2 r 1), .bool (vf L 2 r 2), .bool (vf L 2 r 3), .bool (vf L 2 r 4), .bool (vf L 2 r 5), .bool (vf L 2 r 6), .bool (vf L 2 r 7), .slice p2 n2 c2] (by omega)).trans B2
   generalize x2.setRow g1 #[.bool (vf L 2 r 0), .bool (vf L 2 r 1), .bool (vf L 2 r 2), .bool (vf L 2 r 3), .bool (vf L 2 r 4), .bool (vf L 2 r 5), .bool (vf L 2 r 6), .bool (vf L 2 r 7), .slice p2 n2 c2] = x3 at *
   skip
   refine hK.out _ _ ⟨H3, ?_⟩
   clear hK K
   try simp only [sx]
   refine held_one (i := 17) (by kernel_rfl) rfl rfl (fun K hK => ?_)
   refine wp_store_row 91 (.tmp 6) (.tmp 22) rfl g2 #[.bool (vf L 3 r 0), .bool (vf L 3 r 1), .bool (vf L 3 r 2), .bool (vf L 3 r 3), .bool (vf L 3 r 4), .bool (vf L 3 r 5), .bool (vf L 3 r 6), .bool (vf L 3 r 7), .slice p3 n3 c3] rfl rfl 91 _ T3 size53 rfl (bcs_one _ _ _ _) ?_
   have H4 := H3.row (b := g2) (by omega) #[.bool (vf L 3 r 0), .bool (vf L 3 r 1), .bool (vf L 3 r 2), .bool (vf L 3 r 3), .bool (vf L 3 r 4), .bool (vf L 3 r 5), .bool (vf L 3 r 6), .bool (vf L 3 r 7), .slice p3 n3 c3]
   have S4 := setRow_heap x3 g2 _ #[.bool (vf L 3 r 0), .bool (vf L 3 r 1), .bool (vf L 3 r 2), .bool (vf L 3 r 3), .bool (vf L 3 r 4), .bool (vf L 3 r 5), .bool (vf L 3 r 6), .bool (vf L 3 r 7), .slice p3 n3 c3] 91 (0, 0) T3
   have T4 := (setRow_other x3 g2 g1 #[.bool (vf L 3 r 0), .bool (vf L 3 r 1), .bool (vf L 3 r 2), .bool (vf L 3 r 3), .bool (vf L 3 r 4), .bool (vf L 3 r 5), .bool (vf L 3 r 6), .bool (vf L 3 r 7), .slice p3 n3 c3] (by omega)).trans S3
   generalize x3.setRow g2 #[.bool (vf L 3 r 0), .bool (vf L 3 r 1), .bool (vf L 3 r 2), .bool (vf L 3 r 3), .bool (vf L 3 r 4), .bool (vf L 3 r 5), .bool (vf L 3 r 6), .bool (vf L 3 r 7), .slice p3 n3 c3] = x4 at *
   skip
   refine hK.out _ _ ⟨H4, ?_⟩
   clear hK K
   try simp only [sx]
   refine wpAnyH_done (by kernel_rfl) ?_ _
   refine NoPanic.normal ?_
   go_wp2_with fail
   go_meet
   case rel => exact ⟨g1, g2, rfl, rfl, ⟨H4, T4, S4⟩⟩
  ·go_simp
   have H1 := HS.alloc (.cells #[.bool false, .bool false, .bool false, .bool false, .bool false, .bool false, .bool false, .bool false, .slice none 0 0] 91)
   have B1 := heap_alloc_new x0 (.cells #[.bool false, .bool false, .bool false, .bool false, .bool false, .bool false, .bool false, .bool false, .slice none 0 0] 91)
   have L1 : x0.heap.size < (x0.alloc (.cells #[.bool false, .bool false, .bool false, .bool false, .bool false, .bool false, .bool false, .bool false, .slice none 0 0] 91)).heap.size := by simp
   have M1 : w.heap.size ≤ x0.heap.size := HS.size
   generalize x0.alloc (.cells #[.bool false, .bool false, .bool false, .bool false, .bool false, .bool false, .bool false, .bool false, .slice none 0 0] 91) = x1 at *
   generalize hg1 : x0.heap.size = g1 at *
   try go_simp
   refine hK.out _ _ ⟨H1, ?_⟩
   clear hK K
   try simp only [sx]
   refine held_one (i := 14) (by kernel_rfl) rfl rfl (fun K hK => ?_)
   go_simp
   have H2 := H1.alloc (.cells #[.bool false, .bool false, .bool false, .bool false, .bool false, .bool false, .bool false, .bool false, .slice none 0 0] 91)
   have B2 := heap_alloc_new x1 (.cells #[.bool false, .bool false, .bool false, .bool false, .bool false, .bool false, .bool false, .bool false, .slice none 0 0] 91)
   have B1' := heap_old (o := .cells #[.bool false, .bool false, .bool false, .bool false, .bool false, .bool false, .bool false, .bool false, .slice none 0 0] 91) B1
   have L2 : x1.heap.size < (x1.alloc (.cells #[.bool false, .bool false, .bool false, .bool false, .bool false, .bool false, .bool false, .bool false, .slice none 0 0] 91)).heap.size := by simp
   have M2 : w.heap.size ≤ x1.heap.size := H1.size
   generalize x1.alloc (.cells #[.bool false, .bool false, .bool false, .bool false, .bool false, .bool false, .bool false, .bool false, .slice none 0 0] 91) = x2 at *
   generalize hg2 : x1.heap.size = g2 at *
   have Dn : g1 ≠ g2 := by omega
   try go_simp
   refine hK.out _ _ ⟨H2, ?_⟩
   clear hK K
   try simp only [sx]
   refine held_one (i := 16) (by kernel_rfl) rfl rfl (fun K hK => ?_)
   refine wp_store_row 91 (.tmp 5) (.tmp 15) rfl g2 #[.bool (vf L 2 r 0), .bool (vf L 2 r 1), .bool (vf L 2 r 2), .bool (vf L 2 r 3), .bool (vf L 2 r 4), .bool (vf L 2 r 5), .bool (vf L 2 r 6), .bool (vf L 2 r 7), .slice p2 n2 c2] rfl rfl 91 _ B2 size53 rfl (bcs_one _ _ _ _) ?_
   have H3 := H2.row (b := g2) (by omega) #[.bool (vf L 2 r 0), .bool (vf L 2 r 1), .bool (vf L 2 r 2), .bool (vf L 2 r 3), .bool (vf L 2 r 4), .bool (vf L 2 r 5), .bool (vf L 2 r 6), .bool (vf L 2 r 7), .slice p2 n2 c2]
   have S3 := setRow_heap x2 g2 _ #[.bool (vf L 2 r 0), .bool (vf L 2 r 1), .bool (vf L 2 r 2), .bool (vf L 2 r 3), .bool (vf L 2 r 4), .bool (vf L 2 r 5), .bool (vf L 2 r 6), .bool (vf L 2 r 7), .slice p2 n2 c2] 91 (0, 0) B2
   have T3 := (setRow_other x2 g2 g1 #[.bool (vf L 2 r 0), .bool (vf L 2 r 1), .bool (vf L 2 r 2), .bool (vf L 2 r 3), .bool (vf L 2 r 4), .bool (vf L 2 r 5), .bool (vf L 2 r 6), .bool (vf L 2 r 7), .slice p2 n2 c2] (by omega)).trans B1'
   generalize x2.setRow g2 #[.bool (vf L 2 r 0), .bool (vf L 2 r 1), .bool (vf L 2 r 2), .bool (vf L 2 r 3), .bool (vf L 2 r 4), .bool (vf L 2 r 5), .bool (vf L 2 r 6), .bool (vf L 2 r 7), .slice p2 n2 c2] = x3 at *
   skip
   refine hK.out _ _ ⟨H3, ?_⟩
   clear hK K
   try simp only [sx]
   refine held_one (i := 17) (by kernel_rfl) rfl rfl (fun K hK => ?_)
   refine wp_store_row 91 (.tmp 6) (.tmp 22) rfl g1 #[.bool (vf L 3 r 0), .bool (vf L 3 r 1), .bool (vf L 3 r 2), .bool (vf L 3 r 3), .bool (vf L 3 r 4), .bool (vf L 3 r 5), .bool (vf L 3 r 6), .bool (vf L 3 r 7), .slice p3 n3 c3] rfl rfl 91 _ T3 size53 rfl (bcs_one _ _ _ _) ?_
   have H4 := H3.row (b := g1) (by omega) #[.bool (vf L 3 r 0), .bool (vf L 3 r 1), .bool (vf L 3 r 2), .bool (vf L 3 r 3), .bool (vf L 3 r 4), .bool (vf L 3 r 5), .bool (vf L 3 r 6), .bool (vf L 3 r 7), .slice p3 n3 c3]
   have S4 := setRow_heap x3 g1 _ #[.bool (vf L 3 r 0), .bool (vf L 3 r 1), .bool (vf L 3 r 2), .bool (vf L 3 r 3), .bool (vf L 3 r 4), .bool (vf L 3 r 5), .bool (vf L 3 r 6), .bool (vf L 3 r 7), .slice p3 n3 c3] 91 (0, 0) T3
   have T4 := (setRow_other x3 g1 g2 #[.bool (vf L 3 r 0), .bool (vf L 3 r 1), .bool (vf L 3 r 2), .bool (vf L 3 r 3), .bool (vf L 3 r 4), .bool (vf L 3 r 5), .bool (vf L 3 r 6), .bool (vf L 3 r 7), .slice p3 n3 c3] (by omega)).trans S3
   generalize x3.setRow g1 #[.bool (vf L 3 r 0), .bool (vf L 3 r 1), .bool (vf L 3 r 2), .bool (vf L 3 r 3), .bool (vf L 3 r 4), .bool (vf L 3 r 5), .bool (vf L 3 r 6), .bool (vf L 3 r 7), .slice p3 n3 c3] = x4 at *
   skip
   refine hK.out _ _ ⟨H4, ?_⟩
   clear hK K
   try simp only [sx]
   refine wpAnyH_done (by kernel_rfl) ?_ _
   refine NoPanic.normal ?_
   go_wp2_with fail
   go_meet
   case rel => exact ⟨g2, g1, rfl, rfl, ⟨H4, T4, S4⟩⟩
 case rest =>
  obtain ⟨g1, g2, rfl, rfl, HB⟩ := hcut
  clear HL2 HL3
  go_wp2_with fail
  go_loopw [7, 8] (fun u7 u8 wr => ∃ i c : Nat, i ≤ N + 1 ∧ u8 = .int .i64 i ∧ u7 = .int .i64 c ∧ Hid (1 ≤ i ∧ c = nds L r (i - 1)) ∧ Hid (NB w g1 g2 (bcs (vf L 2 r) p2 n2 c2) (bcs (vf L 3 r) p3 n3 c3) wr)) (fun _ u8 _ => N + 1 - (intOf u8).toNat)
  case atStart => exact ⟨1, 0, by omega, rfl, rfl, ⟨Nat.le_refl _, rfl⟩, HB⟩
  case round =>
   obtain ⟨i, c, hi, rfl, rfl, Hc, HB2⟩ := hrel
   clear HB
   obtain ⟨n0, _, hb⟩ := HC.out _ HB2.out.ext
   by_cases hlt : (i : Int) ≤ (N : Int)
   ·have q7 : i < 8 := by have := HN.out; omega
    have q8 : (i : Int) < 8 := by omega
    have q0 : (0 : Int) ≤ (i : Int) := by omega
    have qw : IntKind.i64.wrap ((i : Int) + 1) = (i : Int) + 1 := by rw [IntKind.wrap_i64]; omega
    have hcl : c ≤ 7 := by
     have h1 := nds_le L r (i - 1)
     obtain ⟨q, e⟩ := Hc.out
     omega
    have cw : IntKind.i64.wrap ((c : Int) + 1) = (c : Int) + 1 := by rw [IntKind.wrap_i64]; omega
    obtain ⟨d1, d2, l1, l2⟩ := HB2.out.look q7
    have Hs : Hid (nds L r i = c + if (vf L 2 r i || vf L 3 r i) = true then 1 else 0) := by
     show _ = _
     rw [nds_step Hi.out r Hc.out.1, Hc.out.2]
    have Hm : Hid (∀ x : Int, x = (i : Int) + 1 → N + 1 - (intOf (.int .i64 x)).toNat < N + 1 - (intOf (.int .i64 (i : Int))).toNat) := fun x e => by subst e; simp [intOf]; omega
    generalize hv2 : vf L 2 r i = v2 at *
    generalize hv3 : vf L 3 r i = v3 at *
    clear hcl
    cases v2 with
    | true =>
     have Hs2 : Hid (nds L r i = c + 1) := Hs.out
     clear hv2 hv3 Hs
     go_wp2
     go_roundw
     case rel => exact ⟨i + 1, c + 1, by omega, by push_cast; rfl, by push_cast; rfl, ⟨by omega, Hs2.out.symm⟩, HB2⟩
     case measure => exact Hm.out _ rfl
    | false =>
     cases v3 with
     | true =>
      have Hs2 : Hid (nds L r i = c + 1) := Hs.out
      clear hv2 hv3 Hs
      go_wp2
      go_roundw
      case rel => exact ⟨i + 1, c + 1, by omega, by push_cast; rfl, by push_cast; rfl, ⟨by omega, Hs2.out.symm⟩, HB2⟩
      case measure => exact Hm.out _ rfl
     | false =>
      have Hs2 : Hid (nds L r i = c) := Hs.out
      clear hv2 hv3 Hs
      go_wp2
      go_roundw
      case rel => exact ⟨i + 1, c, by omega, by push_cast; rfl, rfl, ⟨by omega, Hs2.out.symm⟩, HB2⟩
      case measure => exact Hm.out _ rfl
   ·have Hc2 : Hid (c = nds L r N) := by
     obtain ⟨q, e⟩ := Hc.out
     show _ = _
     rw [e]
     congr 1
     omega
    clear Hc
    go_wp2
    go_ret
    exact ⟨by rw [← Hc2.out]; rfl, HB2.out.ext⟩
end Go.Proofs.Ytmanacbdldfmfaa

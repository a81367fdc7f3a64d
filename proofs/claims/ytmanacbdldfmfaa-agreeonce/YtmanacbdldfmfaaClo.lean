/-
 strings.Clone, called: the same text; nothing old is turned.
-/
import Derived.Test.YtmanacbdldfmfaaSl
import Derived.Test.YtmanacbdldfmfaaWMath
import Derived.Lib.BufferWrite
import Derived.Lib.UnsafeStr
import Derived.Deep.OwnRows
import Derived.Deep.WholeRow
namespace Go.Proofs.Ytmanacbdldfmfaa
set_option maxRecDepth 10000
open Go.RowKit
theorem blk_new (w : World) (o : Obj) : (w.alloc o).heap[w.heap.size]? = some o := Deep.blk_alloc_new w o
theorem info5 : (Try.prog.info? 5).map (fun i => (i.zero, i.size, i.bytes)) = some (some (.int .u8 0), 1, 1) := by kernel_rfl
theorem info5s : (Try.prog.info? 5).map (·.size) = some 1 := by kernel_rfl
theorem cells5 : Try.prog.cellsOf 5 = 1 := by kernel_rfl
/-- What Clone does, step by step: a new row, the bytes in it, the text of it. -/
theorem clone_steps (s : ByteArray) (h : s.size ≠ 0) (hs : s.size ≤ 100000) (w : World) : ∃ w1 w2, Ext w w2 ∧
  (Instr.makeSlice 84 (.int .i64 (s.size : Int)) (.int .i64 (s.size : Int))).run Try.prog w = .ok (.slice (some ⟨w.heap.size, 0, none⟩) s.size s.size) w1 ∧
  ∃ w3, (Builtin.copy_ #[84, 9] 3 #[.slice (some ⟨w.heap.size, 0, none⟩) s.size s.size, .string s]).run Try.prog w1 = .ok (goInt s.size) w3 ∧
  (Builtin.unsafeString_ #[85, 3] 9 #[.pointer (some ⟨w.heap.size, 0, none⟩), .int .i64 s.size]).run Try.prog w3 = .ok (.string s) w2 := by
 have hz : (madeCells #[.int .u8 0] s.size).size = s.size := by simp [size_madeCells]
 have hc := Lib.run_copy_row_string (P := Try.prog) (w.alloc (.cells (madeCells #[.int .u8 0] s.size) 5)) 84 9 3 5 w.heap.size 0 s.size s.size s (madeCells #[.int .u8 0] s.size) 5 Try.underlying84 info5s (blk_new _ _) (Nat.le_refl _) (by rw [hz]; omega)
 rw [World.setRow_alloc_new] at hc
 have e1 : ((madeCells #[.int .u8 0] s.size).toList.take 0 ++ Lib.byteCells s.data.toList ++ (madeCells #[.int .u8 0] s.size).toList.drop (0 + s.size)).toArray = (Lib.byteCells s.data.toList).toArray := by
  rw [List.drop_eq_nil_of_le (by rw [Array.length_toList, hz]; omega)]
  simp
 rw [e1] at hc
 have hl : s.data.toList.length = s.size := ba_len s
 have hu := Lib.run_unsafeString_row (P := Try.prog) (w := w.alloc (.cells (Lib.byteCells s.data.toList).toArray 5)) 85 3 9 5 Try.underlying85 cells5 w.heap.size s.size (by unfold World.shape?; rw [blk_new]; simp [Lib.byteCells]) s.data.toList (fun q => h (by rw [← hl, q]; rfl)) (by rw [hl]; exact Nat.le_refl _) (by rw [hl]; omega) (by
  intro j x hj
  have hadd : (⟨w.heap.size, 0, none⟩ : Addr).add j = ⟨w.heap.size, j, none⟩ := by unfold Addr.add; split <;> simp_all
  rw [hadd, World.cell?_alloc_at _ _ _ _ rfl]
  show (Lib.byteCells s.data.toList).toArray[j]? = _
  unfold Lib.byteCells
  rw [List.getElem?_toArray, List.getElem?_map, hj]
  rfl)
 rw [hl] at hu
 refine ⟨_, _, ?_, run_make_row' 84 5 (.int .u8 0) 1 Try.underlying84 info5 rfl .i64 .i64 s.size (by omega) (by omega) w, _, hc, hu⟩
 exact Lib.below_freeze ((Ext.refl w).alloc _) (Nat.le_refl _) _
set_option maxHeartbeats 1000000 in
theorem lclone_any (s : ByteArray) (hs : s.size ≤ 100000) (w : World) :
  Calls Try.prog 37 #[.string s] w fun e w' => e = .returned (.string s) ∧ Ext w w' := by
 by_cases h : s.size = 0
 ·have HQ : Hid (s = ⟨#[]⟩) := ba_eq (List.eq_nil_of_length_eq_zero (by rw [ba_len]; exact h))
  go_enter Try.func37, Try.ntmps37
  go_wp2
  go_ret
  exact ⟨by rw [HQ.out]; rfl, Ext.refl _⟩
 ·have h1 : ¬ (s.size : Int) = 0 := by omega
  have h2 : (0 : Int) < (s.size : Int) := by omega
  obtain ⟨w1, w2, HE, hm, w3, hc, hu⟩ := clone_steps s h hs w
  have HE1 : Hid (Ext w w2) := HE
  clear HE
  go_enter Try.func37, Try.ntmps37
  go_wp2
  go_ret
  exact ⟨rfl, HE1.out⟩
set_option maxHeartbeats 400000 in
theorem clone_any (s : ByteArray) (hs : s.size ≤ 100000) (w : World) :
  Calls Try.prog 24 #[.string s] w fun e w' => e = .returned (.string s) ∧ Ext w w' := by
 go_enter Try.func24, Try.ntmps24
 go_wp2_with fail
 refine (lclone_any s hs _).mono ?_
 rintro e w1 ⟨rfl, HX⟩
 have HX1 : Hid (Ext w w1) := HX
 clear HX
 go_wp2
 go_ret
 exact ⟨rfl, HX1.out⟩
end Go.Proofs.Ytmanacbdldfmfaa

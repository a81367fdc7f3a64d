/-
  chacha.begin, called.
-/
import Derived.Test.YtdafckjcggaflaaDoorCs
namespace Go.Proofs.YtdafckjcggaflaaDoor
open Go.RowKit
def st0 : List Nat := [1634760805, 857760878, 2036477234, 1797285236, 0, 0, 0, 0, 0, 0, 0, 0, 0, 0, 0, 0]
theorem begin_state (key nonce : Nat → Nat) (n j : Nat) (hj : j < 16) : sw (put (sw (gf st0) key 4 8 0) 12 n) nonce 13 3 0 j = gf (state key nonce n) j := by
  obtain rfl | rfl | rfl | rfl | rfl | rfl | rfl | rfl | rfl | rfl | rfl | rfl | rfl | rfl | rfl | rfl : j = 0 ∨ j = 1 ∨ j = 2 ∨ j = 3 ∨ j = 4 ∨ j = 5 ∨ j = 6 ∨ j = 7 ∨ j = 8 ∨ j = 9 ∨ j = 10 ∨ j = 11 ∨ j = 12 ∨ j = 13 ∨ j = 14 ∨ j = 15 := by omega
  all_goals rfl
theorem zero_one (i : Nat) (h : i ≤ 8) : gf st0 (4 + i) = 0 := by
  revert i
  decide
theorem zero_two (key : Nat → Nat) (n i : Nat) (h : i ≤ 3) : put (sw (gf st0) key 4 8 0) 12 n (13 + i) = 0 := by
  obtain rfl | rfl | rfl | rfl : i = 0 ∨ i = 1 ∨ i = 2 ∨ i = 3 := by omega
  all_goals rfl
theorem results12 (tmps : Array Value) (w : World) (g : Nat) (T : Nat → Nat) (z : Int) (hp : tmps.getD 6 undef = .pointer (some ⟨g, 0, none⟩)) (h7 : tmps.getD 7 undef = .int .i64 z) (h : RowH w g 36 .u32 16 T) :
    (results Tryd.f12 tmps).run Tryd.prog w = .ok (.tuple #[.agg (lst .u32 T 16).toArray, .int .i64 z]) w := by
  have hp' : tmps[6]?.getD undef = .pointer (some ⟨g, 0, none⟩) := by simpa using hp
  have h7' : tmps[7]?.getD undef = .int .i64 z := by simpa using h7
  simp [results, Tryd.results12, hp', h7', asAddr, run_loadVar_row w g 36 36 _ (0, 0) _ h Tryd.underlying36 rfl (by rw [Tryd.size36]; simp [lst_len])]
set_option maxHeartbeats 1000000 in
theorem begin_bad (key nonce : ByteArray) (n : Nat) (h : key.size ≠ 32 ∨ nonce.size ≠ 12) (w : World) :
    Calls Tryd.prog 12 #[.string key, .string nonce, .int .u32 (n : Int)] w fun e w' => e = .returned (.tuple #[.agg (lst .u32 (fun _ => 0) 16).toArray, .int .i64 2]) ∧ Ext w w' := by
  have HZ : RowH (w.alloc (Obj.cells #[.int .u32 0, .int .u32 0, .int .u32 0, .int .u32 0, .int .u32 0, .int .u32 0, .int .u32 0, .int .u32 0, .int .u32 0, .int .u32 0, .int .u32 0, .int .u32 0, .int .u32 0, .int .u32 0, .int .u32 0, .int .u32 0] 36)) w.heap.size 36 .u32 16 (fun _ => 0) := RowH.new w .u32 16 36
  have HX := Ext.row ((Ext.refl w).alloc (Obj.cells #[.int .u32 0, .int .u32 0, .int .u32 0, .int .u32 0, .int .u32 0, .int .u32 0, .int .u32 0, .int .u32 0, .int .u32 0, .int .u32 0, .int .u32 0, .int .u32 0, .int .u32 0, .int .u32 0, .int .u32 0, .int .u32 0] 36)) (Nat.le_refl _) (lst .u32 (fun _ => 0) 16).toArray
  have HR := HZ.row (fun _ => 0)
  by_cases h1 : (key.size : Int) = 32
  · have h2 : ¬ (nonce.size : Int) = 12 := by omega
    go_enter Tryd.func12, Tryd.ntmps12
    go_wp2_with (first | (refine wpList_store_row rfl 36 _ _ rfl w.heap.size (lst .u32 (fun _ => 0) 16).toArray rfl rfl 36 _ HZ (by rw [Tryd.size36]; simp [lst_len]) (by simp [lst_len]) (lst_one _ _ _) ?_))
    exact bodyPost_ret (results12 _ _ w.heap.size _ 2 rfl rfl HR) rfl ⟨rfl, HX⟩
  · go_enter Tryd.func12, Tryd.ntmps12
    go_wp2_with (first | (refine wpList_store_row rfl 36 _ _ rfl w.heap.size (lst .u32 (fun _ => 0) 16).toArray rfl rfl 36 _ HZ (by rw [Tryd.size36]; simp [lst_len]) (by simp [lst_len]) (lst_one _ _ _) ?_))
    exact bodyPost_ret (results12 _ _ w.heap.size _ 2 rfl rfl HR) rfl ⟨rfl, HX⟩
set_option maxHeartbeats 1000000 in
theorem begin_any (key nonce : ByteArray) (n : Nat) (hk : key.size = 32) (ho : nonce.size = 12) (w : World) :
    Calls Tryd.prog 12 #[.string key, .string nonce, .int .u32 (n : Int)] w fun e w' => e = .returned (.tuple #[.agg (lst .u32 (gf (state (sb key) (sb nonce) n)) 16).toArray, .int .i64 0]) ∧ Ext w w' := by
  have h1 : (key.size : Int) = 32 := by omega
  have h2 : (nonce.size : Int) = 12 := by omega
  have HN : SizeLe w w.heap.size := Nat.le_refl _
  have HZ : RowH (w.alloc (Obj.cells #[.int .u32 0, .int .u32 0, .int .u32 0, .int .u32 0, .int .u32 0, .int .u32 0, .int .u32 0, .int .u32 0, .int .u32 0, .int .u32 0, .int .u32 0, .int .u32 0, .int .u32 0, .int .u32 0, .int .u32 0, .int .u32 0] 36)) w.heap.size 36 .u32 16 (fun _ => 0) := RowH.new w .u32 16 36
  have HE : Ext w (w.alloc (Obj.cells #[.int .u32 0, .int .u32 0, .int .u32 0, .int .u32 0, .int .u32 0, .int .u32 0, .int .u32 0, .int .u32 0, .int .u32 0, .int .u32 0, .int .u32 0, .int .u32 0, .int .u32 0, .int .u32 0, .int .u32 0, .int .u32 0] 36)) := (Ext.refl w).alloc _
  go_enter Tryd.func12, Tryd.ntmps12
  go_wp2_with fail
  have HR1 : RowH ((w.alloc (Obj.cells #[.int .u32 0, .int .u32 0, .int .u32 0, .int .u32 0, .int .u32 0, .int .u32 0, .int .u32 0, .int .u32 0, .int .u32 0, .int .u32 0, .int .u32 0, .int .u32 0, .int .u32 0, .int .u32 0, .int .u32 0, .int .u32 0] 36)).alloc (Obj.cells #[.int .u32 1634760805, .int .u32 857760878, .int .u32 2036477234, .int .u32 1797285236, .int .u32 0, .int .u32 0, .int .u32 0, .int .u32 0, .int .u32 0, .int .u32 0, .int .u32 0, .int .u32 0, .int .u32 0, .int .u32 0, .int .u32 0, .int .u32 0] 36)) (w.heap.size + 1) 36 .u32 16 (gf st0) := by
    unfold RowH
    rw [show w.heap.size + 1 = (w.alloc (Obj.cells #[.int .u32 0, .int .u32 0, .int .u32 0, .int .u32 0, .int .u32 0, .int .u32 0, .int .u32 0, .int .u32 0, .int .u32 0, .int .u32 0, .int .u32 0, .int .u32 0, .int .u32 0, .int .u32 0, .int .u32 0, .int .u32 0] 36)).heap.size by simp, heap_alloc_new]
    rfl
  have HZ1 := HZ.ext ((Ext.refl _).alloc (Obj.cells #[.int .u32 1634760805, .int .u32 857760878, .int .u32 2036477234, .int .u32 1797285236, .int .u32 0, .int .u32 0, .int .u32 0, .int .u32 0, .int .u32 0, .int .u32 0, .int .u32 0, .int .u32 0, .int .u32 0, .int .u32 0, .int .u32 0, .int .u32 0] 36))
  have HE1 := HE.alloc (Obj.cells #[.int .u32 1634760805, .int .u32 857760878, .int .u32 2036477234, .int .u32 1797285236, .int .u32 0, .int .u32 0, .int .u32 0, .int .u32 0, .int .u32 0, .int .u32 0, .int .u32 0, .int .u32 0, .int .u32 0, .int .u32 0, .int .u32 0, .int .u32 0] 36)
  generalize (w.alloc (Obj.cells #[.int .u32 0, .int .u32 0, .int .u32 0, .int .u32 0, .int .u32 0, .int .u32 0, .int .u32 0, .int .u32 0, .int .u32 0, .int .u32 0, .int .u32 0, .int .u32 0, .int .u32 0, .int .u32 0, .int .u32 0, .int .u32 0] 36)).alloc (Obj.cells #[.int .u32 1634760805, .int .u32 857760878, .int .u32 2036477234, .int .u32 1797285236, .int .u32 0, .int .u32 0, .int .u32 0, .int .u32 0, .int .u32 0, .int .u32 0, .int .u32 0, .int .u32 0, .int .u32 0, .int .u32 0, .int .u32 0, .int .u32 0] 36) = W1 at *
  generalize hg : w.heap.size = g at *
  have hgw : w.heap.size ≤ g + 1 := by omega
  clear HZ HE
  refine (setw_any (gf st0) (g + 1) 4 8 12 key (by omega) (by omega) zero_one W1 HR1).mono ?_
  rintro e w2 ⟨rfl, HR2, HB2⟩
  have HZ2 : RowH w2 g 36 .u32 16 (fun _ => 0) := (HB2.block g (by omega)).trans HZ1
  have HE2 : Ext w w2 := Below.trans HE1 (Below.mono HB2 hgw)
  have HR3 := HR2.set 12 n
  have HZ3 := RowH.other (v := .int .u32 (n : Int)) (i := 12) (by omega : g ≠ g + 1) HZ2 ⟨_, _, _, HR2⟩
  have HE3 := Ext.st (i := 12) (v := .int .u32 (n : Int)) hgw HE2
  obtain ⟨g12, f12⟩ := HR2.tab.2 12 (by decide)
  clear HR1 HZ1 HE1 HB2 HZ2 HE2 HR2 hg hgw
  go_wp2_with fail
  generalize w2.setCell ⟨g + 1, 12, none⟩ (.int .u32 (n : Int)) = W3 at *
  clear g12 f12
  refine (setw_any (put (sw (gf st0) (sb key) 4 8 0) 12 n) (g + 1) 13 3 3 nonce (by omega) (by omega) (zero_two _ _) W3 HR3).mono ?_
  rintro e w4 ⟨rfl, HR4, HB4⟩
  have HZ4 : RowH w4 g 36 .u32 16 (fun _ => 0) := (HB4.block g (by omega)).trans HZ3
  have HE4 : Ext w w4 := Below.trans HE3 (Below.mono HB4 (Nat.le_succ_of_le HN))
  unfold RowH at HR4
  rw [lst_congr (begin_state (sb key) (sb nonce) n)] at HR4
  clear HR3 HZ3 HE3 HB4
  have HE5 := Ext.row HE4 HN (lst .u32 (gf (state (sb key) (sb nonce) n)) 16).toArray
  have HR5 := HZ4.row (gf (state (sb key) (sb nonce) n))
  obtain ⟨F, HF⟩ : ∃ F, Hid (gf (state (sb key) (sb nonce) n) = F) := ⟨_, rfl⟩
  rw [HF.out] at HR4 HE5 HR5
  go_wp2_with (first | (refine wpList_load_row rfl 36 _ rfl (g + 1) rfl 36 (lst .u32 F 16).toArray (0, 0) _ HR4 Tryd.underlying36 rfl (by rw [Tryd.size36]; simp [lst_len]) ?_) | (refine wpList_store_row rfl 36 _ _ rfl g (lst .u32 F 16).toArray rfl rfl 36 _ HZ4 (by rw [Tryd.size36]; simp [lst_len]) (by simp [lst_len]) (lst_one _ _ _) ?_))
  exact bodyPost_ret (results12 _ _ g _ 0 rfl rfl HR5) rfl ⟨by rw [HF.out], HE5⟩
end Go.Proofs.YtdafckjcggaflaaDoor

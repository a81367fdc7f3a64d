/-
  poly.rest, called.
-/
import Derived.Test.YtgpcnmdaplkpoaaPb
namespace Go.Proofs.Ytgpcnmdaplkpoaa
open Go.RowKit
/-- A number in the lowest limb. -/
def one5 (v j : Nat) : Nat := if j = 0 then v else 0
theorem v5_one (n : Nat → Nat) (v : Nat) : v5 (fun j => n j + one5 v j) = v5 n + v := by
  simp only [v5, one5, if_true, Nat.succ_ne_self, if_false, Nat.reduceEqDiff]
  omega
theorem one5_cells (v : Nat) : L5 (one5 v) = .agg #[.int .u64 (v : Int), .int .u64 0, .int .u64 0, .int .u64 0, .int .u64 0] := rfl
/-- What is left of a number. -/
def rs (n : Nat → Nat) : Nat → Nat := cl (fun j => n j + one5 (cr (fun j => n j + one5 5 j) 5 * 5) j) 5
theorem rs_val {n : Nat → Nat} (h : v5 n < 1361129467683753853853498429727072845829) : v5 (rs n) = v5 n % 1361129467683753853853498429727072845819 := by
  unfold rs
  rw [cl_mod, v5_one, cr_val, v5_one]
  by_cases h1 : v5 n + 5 < 1361129467683753853853498429727072845824
  · rw [Nat.div_eq_of_lt h1]; omega
  · rw [show (v5 n + 5) / 1361129467683753853853498429727072845824 = 1 by omega]; omega
theorem rs_lt (n : Nat → Nat) (j : Nat) (h : j < 5) : rs n j < 67108864 := cl_lt _ j h
set_option maxHeartbeats 1000000 in
theorem rest_any (n : Nat → Nat) (hn : ∀ j, j < 5 → n j < 4611686018427387904) (w : World) :
    Calls Try.prog 18 #[L5 n] w fun e w' => e = .returned (L5 (rs n)) ∧ Ext w w' := by
  have hcr : cr (fun j => n j + one5 5 j) 5 ≤ 137438955521 := cr_le (fun j hj => by have := hn j hj; unfold one5; split <;> omega) 5 (Nat.le_refl _)
  obtain ⟨q, hq⟩ : ∃ q, cr (fun j => n j + one5 5 j) 5 = q := ⟨_, rfl⟩
  have HRs : Hid (rs n = cl (fun j => n j + one5 (q * 5) j) 5) := by rw [← hq]; rfl
  have HP1 : Hid (∀ W, Calls Try.prog 16 #[L5 n, .agg #[.int .u64 5, .int .u64 0, .int .u64 0, .int .u64 0, .int .u64 0]] W fun e w' => e = .returned (L5 fun j => n j + one5 5 j) ∧ Ext W w') :=
    fun W => plus_any n (one5 5) (fun j hj => by have := hn j hj; unfold one5; split <;> omega) W
  have HC1 : Hid (∀ W, Calls Try.prog 23 #[L5 fun j => n j + one5 5 j] W fun e w' => e = .returned (.tuple #[L5 (cl (fun j => n j + one5 5 j) 5), .int .u64 (q : Int)]) ∧ Ext W w') := fun W => by
    have := carry_any (fun j => n j + one5 5 j) (fun j hj => by have := hn j hj; unfold one5; split <;> omega) W
    rw [hq] at this
    exact this
  rw [hq] at hcr
  have HP2 : Hid (∀ W, Calls Try.prog 16 #[L5 n, .agg #[.int .u64 ((q * 5 : Nat) : Int), .int .u64 0, .int .u64 0, .int .u64 0, .int .u64 0]] W fun e w' => e = .returned (L5 fun j => n j + one5 (q * 5) j) ∧ Ext W w') :=
    fun W => plus_any n (one5 (q * 5)) (fun j hj => by have := hn j hj; unfold one5; split <;> omega) W
  obtain ⟨q2, hq2⟩ : ∃ q2, cr (fun j => n j + one5 (q * 5) j) 5 = q2 := ⟨_, rfl⟩
  have HC2 : Hid (∀ W, Calls Try.prog 23 #[L5 fun j => n j + one5 (q * 5) j] W fun e w' => e = .returned (.tuple #[L5 (cl (fun j => n j + one5 (q * 5) j) 5), .int .u64 (q2 : Int)]) ∧ Ext W w') := fun W => by
    have := carry_any (fun j => n j + one5 (q * 5) j) (fun j hj => by have := hn j hj; unfold one5; split <;> omega) W
    rw [hq2] at this
    exact this
  have hm : IntKind.u64.wrap ((q : Int) * 5) = ((q * 5 : Nat) : Int) := by rw [IntKind.wrap_u64]; omega
  generalize q * 5 = q5 at *
  clear hq hq2 hcr hn
  have HR0 := (Row5.new2 w n).1
  have HZ0 := (Row5.new2 w n).2
  have HE0 : Ext w ((w.alloc (.cells (lst .u64 n 5).toArray 42)).alloc (.cells #[.int .u64 0, .int .u64 0, .int .u64 0, .int .u64 0, .int .u64 0] 42)) := ((Ext.refl w).alloc _).alloc _
  rw [← HRs.out] at HC2
  generalize (fun j => n j + one5 5 j) = A1 at *
  generalize (fun j => n j + one5 q5 j) = A2 at *
  generalize cl A1 5 = C1 at *
  generalize rs n = R at *
  clear HRs
  go_enter Try.func18, Try.ntmps18
  go_wp2_with (first | (refine wpList_load_row rfl 42 _ rfl (w.heap.size) rfl 42 (lst .u64 (n) 5).toArray (0, 0) _ HR0 Try.underlying42 rfl (by rw [Try.size42]; simp [lst_len]) ?_))
  generalize (w.alloc (.cells (lst .u64 n 5).toArray 42)).alloc (.cells #[.int .u64 0, .int .u64 0, .int .u64 0, .int .u64 0, .int .u64 0] 42) = W0 at *
  generalize hgm : w.heap.size = m at *
  refine (HP1.out _).mono ?_
  rintro e w1 ⟨rfl, HX1⟩
  have HR1 := HR0.ext HX1
  have HZ1 := HZ0.ext HX1
  have HE1 := HE0.trans HX1
  clear HR0 HZ0 HE0 HX1
  go_wp2_with fail
  refine (HC1.out _).mono ?_
  rintro e w2 ⟨rfl, HX2⟩
  have HR2 := HR1.ext HX2
  have HZ2 := HZ1.ext HX2
  have HE2 := HE1.trans HX2
  clear HR1 HZ1 HE1 HX2
  have HA : RowH (w2.alloc (.cells #[.int .u64 0, .int .u64 0, .int .u64 0, .int .u64 0, .int .u64 0] 42)) w2.heap.size 42 .u64 5 (fun _ => 0) := RowH.new w2 .u64 5 42
  have HX3 : Ext w2 ((w2.alloc (.cells #[.int .u64 0, .int .u64 0, .int .u64 0, .int .u64 0, .int .u64 0] 42)).setRow w2.heap.size (lst .u64 C1 5).toArray) := ((Ext.refl w2).alloc _).row (Nat.le_refl _) _
  have HR3 := HR2.ext HX3
  have HZ3 := HZ2.ext HX3
  have HE3 := HE2.trans HX3
  clear HR2 HZ2 HE2 HX3
  go_wp2_with (first | (refine wpList_store_row rfl 42 _ _ rfl (w2.heap.size) (lst .u64 (C1) 5).toArray rfl rfl 42 _ HA (by rw [Try.size42]; simp [lst_len]) (by simp [lst_len]) (lst_one _ _ _) ?_) | (refine wpList_load_row rfl 42 _ rfl (m) rfl 42 (lst .u64 (n) 5).toArray (0, 0) _ HR3 Try.underlying42 rfl (by rw [Try.size42]; simp [lst_len]) ?_))
  clear HA
  generalize (w2.alloc (.cells #[.int .u64 0, .int .u64 0, .int .u64 0, .int .u64 0, .int .u64 0] 42)).setRow w2.heap.size (lst .u64 C1 5).toArray = W3 at *
  refine (HP2.out _).mono ?_
  rintro e w4 ⟨rfl, HX4⟩
  have HR4 := HR3.ext HX4
  have HZ4 := HZ3.ext HX4
  have HE4 := HE3.trans HX4
  clear HR3 HZ3 HE3 HX4
  go_wp2_with fail
  refine (HC2.out _).mono ?_
  rintro e w5 ⟨rfl, HX5⟩
  have HR5 := HR4.ext HX5
  have HZ5 := HZ4.ext HX5
  have HE5 := HE4.trans HX5
  clear HR4 HZ4 HE4 HX5
  have HR6 := HR5.row R
  have HZ6 : RowH (w5.setRow m (lst .u64 R 5).toArray) (m + 1) 42 .u64 5 (fun _ => 0) := (setRow_other w5 m (m + 1) _ (by omega)).trans HZ5
  have HM : w.heap.size ≤ m := Nat.le_of_eq hgm
  have HE6 := Ext.row HE5 HM (lst .u64 R 5).toArray
  have HE7 := Ext.row HE6 (b := m + 1) (Nat.le_succ_of_le HM) (lst .u64 R 5).toArray
  have HR7 := HZ6.row R
  clear HE6 HE5 HZ5 HM
  go_wp2_with (first | (refine wpList_store_row rfl 42 _ _ rfl (m) (lst .u64 (R) 5).toArray rfl rfl 42 _ HR5 (by rw [Try.size42]; simp [lst_len]) (by simp [lst_len]) (lst_one _ _ _) ?_) | (refine wpList_load_row rfl 42 _ rfl (m) rfl 42 (lst .u64 (R) 5).toArray (0, 0) _ HR6 Try.underlying42 rfl (by rw [Try.size42]; simp [lst_len]) ?_) | (refine wpList_store_row rfl 42 _ _ rfl (m + 1) (lst .u64 (R) 5).toArray rfl rfl 42 _ HZ6 (by rw [Try.size42]; simp [lst_len]) (by simp [lst_len]) (lst_one _ _ _) ?_))
  refine bodyPost_ret (v := L5 R) (results_cell_row Try.results18 _ _ (m + 1) 42 _ (0, 0) _ rfl HR7 Try.underlying42 rfl (by rw [Try.size42]; simp [lst_len])) rfl ⟨rfl, HE7⟩
end Go.Proofs.Ytgpcnmdaplkpoaa

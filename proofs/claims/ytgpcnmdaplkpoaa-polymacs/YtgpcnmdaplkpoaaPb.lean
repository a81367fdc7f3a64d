/-
  poly.plus, called.
-/
import Derived.Test.YtgpcnmdaplkpoaaPa
namespace Go.Proofs.Ytgpcnmdaplkpoaa
open Go.RowKit
/-- The sum behind i steps. -/
def pl (a b : Nat → Nat) (i j : Nat) : Nat := if j < i then a j + b j else a j
theorem pl_zero (a b : Nat → Nat) : pl a b 0 = a := by funext j; simp [pl]
theorem pl_step (a b : Nat → Nat) (i : Nat) : put (pl a b i) i (a i + b i) = pl a b (i + 1) := by
  funext j
  unfold put pl
  by_cases h : j = i
  · subst h; simp
  · rw [if_neg h]
    by_cases h2 : j < i
    · rw [if_pos h2, if_pos (by omega)]
    · rw [if_neg h2, if_neg (by omega)]
/-- What plus holds: the first number in block n, the second and the answer's block behind it. -/
def PS (w wr : World) (n : Nat) (b F : Nat → Nat) : Prop := RowH wr n 42 .u64 5 F ∧ RowH wr (n + 1) 42 .u64 5 b ∧ RowH wr (n + 2) 42 .u64 5 (fun _ => 0) ∧ Ext w wr ∧ w.heap.size ≤ n
theorem PS.drew {w wr : World} {n : Nat} {b F : Nat → Nat} (h : PS w wr n b F) : PS w wr.drew n b F :=
  have hx : Ext wr wr.drew := (Ext.refl _).drew
  ⟨h.1.ext hx, h.2.1.ext hx, h.2.2.1.ext hx, h.2.2.2.1.trans hx, h.2.2.2.2⟩
theorem PS.set {w wr : World} {n : Nat} {b F : Nat → Nat} (h : PS w wr n b F) (t v : Nat) : PS w (wr.setCell ⟨n, t, none⟩ (.int .u64 (v : Int))) n b (put F t v) := by
  obtain ⟨h1, h2, h3, h4, h5⟩ := h
  exact ⟨h1.set t v, RowH.other (by omega) h2 ⟨_, _, _, h1⟩, RowH.other (by omega) h3 ⟨_, _, _, h1⟩, Ext.st h5 h4, h5⟩
theorem Row5.new3 (w : World) (a b : Nat → Nat) : PS w (((w.alloc (.cells (lst .u64 a 5).toArray 42)).alloc (.cells (lst .u64 b 5).toArray 42)).alloc (.cells #[.int .u64 0, .int .u64 0, .int .u64 0, .int .u64 0, .int .u64 0] 42)) w.heap.size b a := by
  have h := Row5.new2 (w.alloc (.cells (lst .u64 a 5).toArray 42)) b
  rw [show (w.alloc (.cells (lst .u64 a 5).toArray 42)).heap.size = w.heap.size + 1 by simp] at h
  refine ⟨?_, h.1, h.2, (((Ext.refl w).alloc _).alloc _).alloc _, Nat.le_refl _⟩
  have h0 : RowH (w.alloc (.cells (lst .u64 a 5).toArray 42)) w.heap.size 42 .u64 5 a := by unfold RowH; rw [heap_alloc_new]
  exact h0.ext (((Ext.refl _).alloc _).alloc _)
set_option maxHeartbeats 1000000 in
theorem plus_any (a b : Nat → Nat) (hn : ∀ j, j < 5 → a j + b j < 18446744073709551616) (w : World) :
    Calls Try.prog 16 #[L5 a, L5 b] w fun e w' => e = .returned (L5 fun j => a j + b j) ∧ Ext w w' := by
  have HN : Hid (∀ j, j < 5 → a j + b j < 18446744073709551616) := hn
  have H0 : Hid (PS w (((w.alloc (.cells (lst .u64 a 5).toArray 42)).alloc (.cells (lst .u64 b 5).toArray 42)).alloc (.cells #[.int .u64 0, .int .u64 0, .int .u64 0, .int .u64 0, .int .u64 0] 42)) w.heap.size b (pl a b 0)) := by
    rw [pl_zero]; exact Row5.new3 w a b
  clear hn
  go_enter Try.func16, Try.ntmps16
  go_wp2_with fail
  generalize ((w.alloc (.cells (lst .u64 a 5).toArray 42)).alloc (.cells (lst .u64 b 5).toArray 42)).alloc (.cells #[.int .u64 0, .int .u64 0, .int .u64 0, .int .u64 0, .int .u64 0] 42) = W0 at *
  generalize w.heap.size = m at *
  go_loopw [6] (fun u6 wr => ∃ (i : Nat), i ≤ 5 ∧ u6 = .int .i64 i ∧ Hid (PS w wr m b (pl a b i))) (fun u6 _ => 5 - (intOf u6).toNat)
  case atStart => exact ⟨0, by omega, rfl, H0⟩
  case round =>
    clear H0
    obtain ⟨i, hi5, rfl, HC⟩ := hrel
    by_cases hil : i < 5
    · have hi1 : (i : Int) < 5 := by omega
      have hi0 : (0 : Int) ≤ (i : Int) := by omega
      have hb := HN.out i hil
      have HC1 : Hid (PS w wr.drew m b (pl a b i)) := HC.out.drew
      clear HC
      go_wp2_with fail
      refine wp_region_noPanic ?_
      refine wp_region_until (X := 8) (S := fun wx => wx = wr.drew) (by kernel_rfl) ?_
      generalize wr.drew = W3 at *
      have c1 := HC1.out.1.tab.2 i hil
      have c2 := (HC1.out.2.1.tab.2 i hil).1
      have hcl : pl a b i i = a i := if_neg (Nat.lt_irrefl i)
      rw [hcl] at c1
      obtain ⟨c1, f1⟩ := c1
      have hw : IntKind.u64.wrap ((a i : Int) + (b i : Int)) = ((a i + b i : Nat) : Int) := by rw [IntKind.wrap_u64]; omega
      have HC2 : Hid (PS w (W3.setCell ⟨m, i, none⟩ (.int .u64 ((a i + b i : Nat) : Int))) m b (pl a b (i + 1))) := by
        have h := HC1.out.set i (a i + b i)
        rw [pl_step] at h
        exact h
      generalize a i + b i = s at *
      generalize a i = x at *
      generalize b i = y at *
      clear HC1 hcl hb
      refine until_take (i := 0) (v := ?v0) rfl (by kernel_rfl) (by kernel_rfl) (by kernel_rfl) (by kernel_rfl) (by kernel_rfl) (fun _ _ _ h => h) rfl ?hy0 rfl ?rest0
      case hy0 => (intro w hSw; subst hSw; go_simp; try with_reducible rfl)
      try simp only [Act.put, List.setIfInBounds_toArray, List.set_cons_zero, List.set_cons_succ]
      refine until_take (i := 1) (v := ?v1) rfl (by kernel_rfl) (by kernel_rfl) (by kernel_rfl) (by kernel_rfl) (by kernel_rfl) (fun _ _ _ h => h) rfl ?hy1 rfl ?rest1
      case hy1 => (intro w hSw; subst hSw; go_simp; try with_reducible rfl)
      try simp only [Act.put, List.setIfInBounds_toArray, List.set_cons_zero, List.set_cons_succ]
      refine until_take (i := 2) (v := ?v2) rfl (by kernel_rfl) (by kernel_rfl) (by kernel_rfl) (by kernel_rfl) (by kernel_rfl) (fun _ _ _ h => h) rfl ?hy2 rfl ?rest2
      case hy2 => (intro w hSw; subst hSw; go_simp; try with_reducible rfl)
      try simp only [Act.put, List.setIfInBounds_toArray, List.set_cons_zero, List.set_cons_succ]
      refine until_take (i := 3) (v := ?v3) rfl (by kernel_rfl) (by kernel_rfl) (by kernel_rfl) (by kernel_rfl) (by kernel_rfl) (fun _ _ _ h => h) rfl ?hy3 rfl ?rest3
      case hy3 => (intro w hSw; subst hSw; go_simp; try with_reducible rfl)
      try simp only [Act.put, List.setIfInBounds_toArray, List.set_cons_zero, List.set_cons_succ]
      refine until_take (i := 4) (v := ?v4) rfl (by kernel_rfl) (by kernel_rfl) (by kernel_rfl) (by kernel_rfl) (by kernel_rfl) (fun _ _ _ h => h) rfl ?hy4 rfl ?rest4
      case hy4 => (intro w hSw; subst hSw; go_simp; try with_reducible rfl)
      try simp only [Act.put, List.setIfInBounds_toArray, List.set_cons_zero, List.set_cons_succ]
      refine until_take (i := 5) (v := ?v5) rfl (by kernel_rfl) (by kernel_rfl) (by kernel_rfl) (by kernel_rfl) (by kernel_rfl) (fun _ _ _ h => h) rfl ?hy5 rfl ?rest5
      case hy5 => (intro w hSw; subst hSw; go_simp; try with_reducible rfl)
      try simp only [Act.put, List.setIfInBounds_toArray, List.set_cons_zero, List.set_cons_succ]
      refine until_take (i := 6) (v := ?v6) rfl (by kernel_rfl) (by kernel_rfl) (by kernel_rfl) (by kernel_rfl) (by kernel_rfl) (fun _ _ _ h => h) rfl ?hy6 rfl ?rest6
      case hy6 => (intro w hSw; subst hSw; go_simp; try with_reducible rfl)
      try simp only [Act.put, List.setIfInBounds_toArray, List.set_cons_zero, List.set_cons_succ]
      refine until_take (i := 7) (v := ?v7) rfl (by kernel_rfl) (by kernel_rfl) (by kernel_rfl) (by kernel_rfl) (by kernel_rfl) (fun _ _ _ h => h) rfl ?hy7 rfl ?rest7
      case hy7 => (intro w hSw; subst hSw; go_simp; try with_reducible rfl)
      try simp only [Act.put, List.setIfInBounds_toArray, List.set_cons_zero, List.set_cons_succ]
      refine until_last (by kernel_rfl) (by kernel_rfl) rfl rfl (fun K hK => ?_)
      go_simp
      refine hK.out _ _ (NoPanic.normal ?_)
      clear hK K
      go_wp2_with fail
      go_roundw
      case rel => exact ⟨i + 1, hil, by go_num, HC2⟩
      case measure => simp [intOf]; omega
    · have HI : Hid (i = 5) := (by omega : i = 5)
      have hni : ¬ (i : Int) < 5 := by omega
      rw [HI.out] at HC
      have HRa := HC.out.1
      have HF : lst .u64 (pl a b 5) 5 = lst .u64 (fun j => a j + b j) 5 := lst_congr (fun k hk => if_pos hk)
      have HRz := HC.out.2.2.1
      have HE := Ext.row HC.out.2.2.2.1 (b := m + 2) (Nat.le_trans HC.out.2.2.2.2 (Nat.le_add_right _ _)) (lst .u64 (fun j => a j + b j) 5).toArray
      have HRr := HRz.row (fun j => a j + b j)
      unfold RowH at HRa
      rw [HF] at HRa
      clear HF
      go_wp2_with (first | (refine wpList_load_row rfl 42 _ rfl m rfl 42 (lst .u64 (fun j => a j + b j) 5).toArray (0, 0) _ HRa Try.underlying42 rfl (by rw [Try.size42]; simp [lst_len]) ?_) | (refine wpList_store_row rfl 42 _ _ rfl (m + 2) (lst .u64 (fun j => a j + b j) 5).toArray rfl rfl 42 _ HRz (by rw [Try.size42]; simp [lst_len]) (by simp [lst_len]) (lst_one _ _ _) ?_))
      refine bodyPost_ret (v := L5 fun j => a j + b j) (results_cell_row Try.results16 _ _ (m + 2) 42 _ (0, 0) _ rfl HRr Try.underlying42 rfl (by rw [Try.size42]; simp [lst_len])) rfl ⟨rfl, HE⟩
end Go.Proofs.Ytgpcnmdaplkpoaa

/-
  sandglassref09.quarter, called; nothing old is turned.
-/
import Derived.Test.YtbcgipapbamgfaaDoorCRefs
namespace Go.Proofs.YtbcgipapbamgfaaDoor
open Go.RowKit
/-- Sixteen words. -/
def W16 (l : List Nat) : Prop := l.length = 16 ∧ ∀ x ∈ l, x < 4294967296
theorem W16.lt {l : List Nat} (h : W16 l) (i : Nat) : l.getD i 0 < 4294967296 := by
  rw [List.getD_eq_getElem?_getD]
  cases e : l[i]? with
  | none => exact (by decide)
  | some v => exact h.2 v (List.mem_of_getElem? e)
theorem W16.set {l : List Nat} (h : W16 l) (i : Nat) {v : Nat} (hv : v < 4294967296) : W16 (l.set i v) := by
  refine ⟨by rw [List.length_set]; exact h.1, fun x hx => ?_⟩
  rcases List.mem_or_eq_of_mem_set hx with h2 | rfl
  · exact h.2 x h2
  · exact hv
theorem W16.add {l : List Nat} (h : W16 l) (i j : Nat) : W16 (qAdd l i j) := h.set i (Nat.mod_lt _ (by decide))
theorem W16.xor {l : List Nat} (h : W16 l) (i j n : Nat) : W16 (qXor l i j n) := h.set i (rotl_lt (Nat.xor_lt_two_pow (n := 32) (h.lt i) (h.lt j)))
/-- The row as a function. -/
def gf (l : List Nat) (i : Nat) : Nat := l.getD i 0
theorem gf_set {l : List Nat} (h : W16 l) {o : Nat} (ho : o < 16) (v : Nat) : put (gf l) o v = gf (l.set o v) := by
  funext j
  unfold put gf
  rw [List.getD_eq_getElem?_getD, List.getD_eq_getElem?_getD, List.getElem?_set]
  by_cases e : j = o
  · subst e
    rw [if_pos rfl, if_pos rfl, if_pos (by rw [h.1]; exact ho)]
    rfl
  · rw [if_neg e, if_neg (fun q => e q.symm)]
/-- A turn by a constant, for the walk. -/
def TurnC (x r : Nat) (k : Int) : Prop := ∀ wx, Calls Tryd.prog 62 #[.int .u32 (x : Int), .int .i64 k] wx fun e w' => e = .returned (.int .u32 (r : Int)) ∧ w' = wx
theorem TurnC.call {x r : Nat} {k : Int} (h : TurnC x r k) (wx : World) : Calls Tryd.prog 62 #[.int .u32 (x : Int), .int .i64 k] wx fun e w' => e = .returned (.int .u32 (r : Int)) ∧ w' = wx := h wx
theorem turn_c (x n : Nat) (k : Int) (hx : x < 4294967296) (h0 : 0 < n) (hn : n < 32) (hk : (n : Int) = k) : TurnC x (rotl x n) k := fun wx => by
  rw [← hk]
  exact turn_any x n hx h0 hn wx
theorem Tryd.size53 : (Tryd.prog.info? 53).map (·.size) = some 16 := by kernel_rfl
set_option maxHeartbeats 2000000 in
theorem quarter_any (l0 : List Nat) (hl0 : W16 l0) (a b c d : Nat) (ha : a < 16) (hb : b < 16) (hc : c < 16) (hd : d < 16) (w : World) :
    Calls Tryd.prog 48 #[.agg (lst .u32 (gf l0) 16).toArray, .int .i64 (a : Int), .int .i64 (b : Int), .int .i64 (c : Int), .int .i64 (d : Int)] w fun e w' => e = .returned (.agg (lst .u32 (gf (quart l0 a b c d)) 16).toArray) ∧ Ext w w' := by
  have a0 : (0 : Int) ≤ (a : Int) := by omega
  have a1 : (a : Int) < 16 := by omega
  have b0 : (0 : Int) ≤ (b : Int) := by omega
  have b1 : (b : Int) < 16 := by omega
  have c0 : (0 : Int) ≤ (c : Int) := by omega
  have c1 : (c : Int) < 16 := by omega
  have d0 : (0 : Int) ≤ (d : Int) := by omega
  have d1 : (d : Int) < 16 := by omega
  have HN : SizeLe w w.heap.size := Nat.le_refl _
  obtain ⟨W0, HW0⟩ : ∃ W0, Hid ((w.alloc (Obj.cells (lst IntKind.u32 (gf l0) 16).toArray 53)).alloc (Obj.cells #[.int .u32 0, .int .u32 0, .int .u32 0, .int .u32 0, .int .u32 0, .int .u32 0, .int .u32 0, .int .u32 0, .int .u32 0, .int .u32 0, .int .u32 0, .int .u32 0, .int .u32 0, .int .u32 0, .int .u32 0, .int .u32 0] 53) = W0) := ⟨_, rfl⟩
  have HE0 : Hid (Ext w W0) := by show Ext w W0; rw [← HW0.out]; exact ((Ext.refl _).alloc _).alloc _
  have HR0 : Hid (RowH W0 w.heap.size 53 .u32 16 (gf l0)) := by
    show RowH _ _ _ _ _ _
    rw [← HW0.out]
    unfold RowH
    rw [heap_alloc_old _ _ (by simp), heap_alloc_new]
  have HZ0 : Hid (RowH W0 (w.heap.size + 1) 53 .u32 16 (fun _ => 0)) := by
    show RowH _ _ _ _ _ _
    rw [← HW0.out]
    have := RowH.new (w.alloc (Obj.cells (lst IntKind.u32 (gf l0) 16).toArray 53)) .u32 16 53
    rwa [show (w.alloc (Obj.cells (lst IntKind.u32 (gf l0) 16).toArray 53)).heap.size = w.heap.size + 1 by simp] at this
  go_enter Tryd.func48, Tryd.ntmps48
  go_wp2_with fail
  rw [HW0.out]
  clear HW0
  generalize hn : w.heap.size = n at *
  clear hn
  obtain ⟨ci0, fi0⟩ := HR0.out.tab.2 a ha
  have cj0 := (HR0.out.tab.2 b hb).1
  obtain ⟨r0, hr0⟩ : ∃ r0, (gf l0 a + gf l0 b) % 4294967296 = r0 := ⟨_, rfl⟩
  have hs0 : IntKind.u32.wrap ((gf l0 a : Int) + (gf l0 b : Int)) = (r0 : Int) := by rw [IntKind.wrap_u32']; omega
  obtain ⟨l1, HL1⟩ : ∃ l, Hid (qAdd l0 a b = l) := ⟨_, rfl⟩
  have HR1 : Hid (RowH (W0.setCell ⟨n, a, none⟩ (.int .u32 (r0 : Int))).drew n 53 .u32 16 (gf l1)) := by
    have h := (HR0.out.set a r0).ext (Ext.drew (Ext.refl _))
    rw [gf_set hl0 ha, ← hr0] at h
    rw [← HL1.out, ← hr0]
    exact h
  have hl1 : W16 l1 := by rw [← HL1.out]; exact hl0.add _ _
  have HZ1 : Hid (RowH (W0.setCell ⟨n, a, none⟩ (.int .u32 (r0 : Int))).drew (n + 1) 53 .u32 16 (fun _ => 0)) := (RowH.other (by omega) HZ0.out ⟨_, _, _, HR0.out⟩).ext (Ext.drew (Ext.refl _))
  have HE1 : Hid (Ext w (W0.setCell ⟨n, a, none⟩ (.int .u32 (r0 : Int))).drew) := (Ext.st HN HE0.out).drew
  clear hr0 HR0 HZ0 HE0 hl0
  generalize gf l0 a = vi0 at ci0 hs0
  generalize gf l0 b = vj0 at cj0 hs0
  go_region
  go_wp2_with fail
  clear ci0 cj0 fi0 hs0
  generalize (W0.setCell ⟨n, a, none⟩ (.int .u32 (r0 : Int))).drew = W1 at *
  obtain ⟨ci1, fi1⟩ := HR1.out.tab.2 d hd
  have cj1 := (HR1.out.tab.2 a ha).1
  obtain ⟨r1, hr1⟩ : ∃ r1, rotl (gf l1 d ^^^ gf l1 a) 16 = r1 := ⟨_, rfl⟩
  obtain ⟨x1, hx1⟩ : ∃ x1, gf l1 d ^^^ gf l1 a = x1 := ⟨_, rfl⟩
  have hxo1 := u32_xor_nat (gf l1 d) (gf l1 a) (hl1.lt d) (hl1.lt a)
  have hxl1 : x1 < 4294967296 := by rw [← hx1]; exact Nat.xor_lt_two_pow (n := 32) (hl1.lt d) (hl1.lt a)
  rw [hx1] at hxo1
  obtain ⟨l2, HL2⟩ : ∃ l, Hid (qXor l1 d a 16 = l) := ⟨_, rfl⟩
  have HR2 : Hid (RowH (W1.setCell ⟨n, d, none⟩ (.int .u32 (r1 : Int))).drew n 53 .u32 16 (gf l2)) := by
    have h := (HR1.out.set d r1).ext (Ext.drew (Ext.refl _))
    rw [gf_set hl1 hd, ← hr1] at h
    rw [← HL2.out, ← hr1]
    exact h
  rw [hx1] at hr1
  have T1 : Hid (TurnC x1 r1 16) := by rw [← hr1]; exact turn_c x1 16 16 hxl1 (by decide) (by decide) rfl
  have hl2 : W16 l2 := by rw [← HL2.out]; exact hl1.xor _ _ _
  have HZ2 : Hid (RowH (W1.setCell ⟨n, d, none⟩ (.int .u32 (r1 : Int))).drew (n + 1) 53 .u32 16 (fun _ => 0)) := (RowH.other (by omega) HZ1.out ⟨_, _, _, HR1.out⟩).ext (Ext.drew (Ext.refl _))
  have HE2 : Hid (Ext w (W1.setCell ⟨n, d, none⟩ (.int .u32 (r1 : Int))).drew) := (Ext.st HN HE1.out).drew
  clear hr1 HR1 HZ1 HE1 hl1 hx1 hxl1
  generalize gf l1 d = vi1 at ci1 hxo1
  generalize gf l1 a = vj1 at cj1 hxo1
  go_cut [] (fun wx => wx = (W1.setCell ⟨n, d, none⟩ (.int .u32 (r1 : Int))).drew)
  case first =>
    go_region_with (go_at_call 62; with_reducible refine (TurnC.call T1.out _).mono ?_; rintro e _ ⟨rfl, rfl⟩)
    all_goals
      go_wp2_with fail
      go_meet
      exact rfl
  subst hcut
  go_wp2_with fail
  clear ci1 cj1 fi1 hxo1 T1
  generalize (W1.setCell ⟨n, d, none⟩ (.int .u32 (r1 : Int))).drew = W2 at *
  obtain ⟨ci2, fi2⟩ := HR2.out.tab.2 c hc
  have cj2 := (HR2.out.tab.2 d hd).1
  obtain ⟨r2, hr2⟩ : ∃ r2, (gf l2 c + gf l2 d) % 4294967296 = r2 := ⟨_, rfl⟩
  have hs2 : IntKind.u32.wrap ((gf l2 c : Int) + (gf l2 d : Int)) = (r2 : Int) := by rw [IntKind.wrap_u32']; omega
  obtain ⟨l3, HL3⟩ : ∃ l, Hid (qAdd l2 c d = l) := ⟨_, rfl⟩
  have HR3 : Hid (RowH (W2.setCell ⟨n, c, none⟩ (.int .u32 (r2 : Int))).drew n 53 .u32 16 (gf l3)) := by
    have h := (HR2.out.set c r2).ext (Ext.drew (Ext.refl _))
    rw [gf_set hl2 hc, ← hr2] at h
    rw [← HL3.out, ← hr2]
    exact h
  have hl3 : W16 l3 := by rw [← HL3.out]; exact hl2.add _ _
  have HZ3 : Hid (RowH (W2.setCell ⟨n, c, none⟩ (.int .u32 (r2 : Int))).drew (n + 1) 53 .u32 16 (fun _ => 0)) := (RowH.other (by omega) HZ2.out ⟨_, _, _, HR2.out⟩).ext (Ext.drew (Ext.refl _))
  have HE3 : Hid (Ext w (W2.setCell ⟨n, c, none⟩ (.int .u32 (r2 : Int))).drew) := (Ext.st HN HE2.out).drew
  clear hr2 HR2 HZ2 HE2 hl2
  generalize gf l2 c = vi2 at ci2 hs2
  generalize gf l2 d = vj2 at cj2 hs2
  go_region
  go_wp2_with fail
  clear ci2 cj2 fi2 hs2
  generalize (W2.setCell ⟨n, c, none⟩ (.int .u32 (r2 : Int))).drew = W3 at *
  obtain ⟨ci3, fi3⟩ := HR3.out.tab.2 b hb
  have cj3 := (HR3.out.tab.2 c hc).1
  obtain ⟨r3, hr3⟩ : ∃ r3, rotl (gf l3 b ^^^ gf l3 c) 12 = r3 := ⟨_, rfl⟩
  obtain ⟨x3, hx3⟩ : ∃ x3, gf l3 b ^^^ gf l3 c = x3 := ⟨_, rfl⟩
  have hxo3 := u32_xor_nat (gf l3 b) (gf l3 c) (hl3.lt b) (hl3.lt c)
  have hxl3 : x3 < 4294967296 := by rw [← hx3]; exact Nat.xor_lt_two_pow (n := 32) (hl3.lt b) (hl3.lt c)
  rw [hx3] at hxo3
  obtain ⟨l4, HL4⟩ : ∃ l, Hid (qXor l3 b c 12 = l) := ⟨_, rfl⟩
  have HR4 : Hid (RowH (W3.setCell ⟨n, b, none⟩ (.int .u32 (r3 : Int))).drew n 53 .u32 16 (gf l4)) := by
    have h := (HR3.out.set b r3).ext (Ext.drew (Ext.refl _))
    rw [gf_set hl3 hb, ← hr3] at h
    rw [← HL4.out, ← hr3]
    exact h
  rw [hx3] at hr3
  have T3 : Hid (TurnC x3 r3 12) := by rw [← hr3]; exact turn_c x3 12 12 hxl3 (by decide) (by decide) rfl
  have hl4 : W16 l4 := by rw [← HL4.out]; exact hl3.xor _ _ _
  have HZ4 : Hid (RowH (W3.setCell ⟨n, b, none⟩ (.int .u32 (r3 : Int))).drew (n + 1) 53 .u32 16 (fun _ => 0)) := (RowH.other (by omega) HZ3.out ⟨_, _, _, HR3.out⟩).ext (Ext.drew (Ext.refl _))
  have HE4 : Hid (Ext w (W3.setCell ⟨n, b, none⟩ (.int .u32 (r3 : Int))).drew) := (Ext.st HN HE3.out).drew
  clear hr3 HR3 HZ3 HE3 hl3 hx3 hxl3
  generalize gf l3 b = vi3 at ci3 hxo3
  generalize gf l3 c = vj3 at cj3 hxo3
  go_cut [] (fun wx => wx = (W3.setCell ⟨n, b, none⟩ (.int .u32 (r3 : Int))).drew)
  case first =>
    go_region_with (go_at_call 62; with_reducible refine (TurnC.call T3.out _).mono ?_; rintro e _ ⟨rfl, rfl⟩)
    all_goals
      go_wp2_with fail
      go_meet
      exact rfl
  subst hcut
  go_wp2_with fail
  clear ci3 cj3 fi3 hxo3 T3
  generalize (W3.setCell ⟨n, b, none⟩ (.int .u32 (r3 : Int))).drew = W4 at *
  obtain ⟨ci4, fi4⟩ := HR4.out.tab.2 a ha
  have cj4 := (HR4.out.tab.2 b hb).1
  obtain ⟨r4, hr4⟩ : ∃ r4, (gf l4 a + gf l4 b) % 4294967296 = r4 := ⟨_, rfl⟩
  have hs4 : IntKind.u32.wrap ((gf l4 a : Int) + (gf l4 b : Int)) = (r4 : Int) := by rw [IntKind.wrap_u32']; omega
  obtain ⟨l5, HL5⟩ : ∃ l, Hid (qAdd l4 a b = l) := ⟨_, rfl⟩
  have HR5 : Hid (RowH (W4.setCell ⟨n, a, none⟩ (.int .u32 (r4 : Int))).drew n 53 .u32 16 (gf l5)) := by
    have h := (HR4.out.set a r4).ext (Ext.drew (Ext.refl _))
    rw [gf_set hl4 ha, ← hr4] at h
    rw [← HL5.out, ← hr4]
    exact h
  have hl5 : W16 l5 := by rw [← HL5.out]; exact hl4.add _ _
  have HZ5 : Hid (RowH (W4.setCell ⟨n, a, none⟩ (.int .u32 (r4 : Int))).drew (n + 1) 53 .u32 16 (fun _ => 0)) := (RowH.other (by omega) HZ4.out ⟨_, _, _, HR4.out⟩).ext (Ext.drew (Ext.refl _))
  have HE5 : Hid (Ext w (W4.setCell ⟨n, a, none⟩ (.int .u32 (r4 : Int))).drew) := (Ext.st HN HE4.out).drew
  clear hr4 HR4 HZ4 HE4 hl4
  generalize gf l4 a = vi4 at ci4 hs4
  generalize gf l4 b = vj4 at cj4 hs4
  go_region
  go_wp2_with fail
  clear ci4 cj4 fi4 hs4
  generalize (W4.setCell ⟨n, a, none⟩ (.int .u32 (r4 : Int))).drew = W5 at *
  obtain ⟨ci5, fi5⟩ := HR5.out.tab.2 d hd
  have cj5 := (HR5.out.tab.2 a ha).1
  obtain ⟨r5, hr5⟩ : ∃ r5, rotl (gf l5 d ^^^ gf l5 a) 8 = r5 := ⟨_, rfl⟩
  obtain ⟨x5, hx5⟩ : ∃ x5, gf l5 d ^^^ gf l5 a = x5 := ⟨_, rfl⟩
  have hxo5 := u32_xor_nat (gf l5 d) (gf l5 a) (hl5.lt d) (hl5.lt a)
  have hxl5 : x5 < 4294967296 := by rw [← hx5]; exact Nat.xor_lt_two_pow (n := 32) (hl5.lt d) (hl5.lt a)
  rw [hx5] at hxo5
  obtain ⟨l6, HL6⟩ : ∃ l, Hid (qXor l5 d a 8 = l) := ⟨_, rfl⟩
  have HR6 : Hid (RowH (W5.setCell ⟨n, d, none⟩ (.int .u32 (r5 : Int))).drew n 53 .u32 16 (gf l6)) := by
    have h := (HR5.out.set d r5).ext (Ext.drew (Ext.refl _))
    rw [gf_set hl5 hd, ← hr5] at h
    rw [← HL6.out, ← hr5]
    exact h
  rw [hx5] at hr5
  have T5 : Hid (TurnC x5 r5 8) := by rw [← hr5]; exact turn_c x5 8 8 hxl5 (by decide) (by decide) rfl
  have hl6 : W16 l6 := by rw [← HL6.out]; exact hl5.xor _ _ _
  have HZ6 : Hid (RowH (W5.setCell ⟨n, d, none⟩ (.int .u32 (r5 : Int))).drew (n + 1) 53 .u32 16 (fun _ => 0)) := (RowH.other (by omega) HZ5.out ⟨_, _, _, HR5.out⟩).ext (Ext.drew (Ext.refl _))
  have HE6 : Hid (Ext w (W5.setCell ⟨n, d, none⟩ (.int .u32 (r5 : Int))).drew) := (Ext.st HN HE5.out).drew
  clear hr5 HR5 HZ5 HE5 hl5 hx5 hxl5
  generalize gf l5 d = vi5 at ci5 hxo5
  generalize gf l5 a = vj5 at cj5 hxo5
  go_cut [] (fun wx => wx = (W5.setCell ⟨n, d, none⟩ (.int .u32 (r5 : Int))).drew)
  case first =>
    go_region_with (go_at_call 62; with_reducible refine (TurnC.call T5.out _).mono ?_; rintro e _ ⟨rfl, rfl⟩)
    all_goals
      go_wp2_with fail
      go_meet
      exact rfl
  subst hcut
  go_wp2_with fail
  clear ci5 cj5 fi5 hxo5 T5
  generalize (W5.setCell ⟨n, d, none⟩ (.int .u32 (r5 : Int))).drew = W6 at *
  obtain ⟨ci6, fi6⟩ := HR6.out.tab.2 c hc
  have cj6 := (HR6.out.tab.2 d hd).1
  obtain ⟨r6, hr6⟩ : ∃ r6, (gf l6 c + gf l6 d) % 4294967296 = r6 := ⟨_, rfl⟩
  have hs6 : IntKind.u32.wrap ((gf l6 c : Int) + (gf l6 d : Int)) = (r6 : Int) := by rw [IntKind.wrap_u32']; omega
  obtain ⟨l7, HL7⟩ : ∃ l, Hid (qAdd l6 c d = l) := ⟨_, rfl⟩
  have HR7 : Hid (RowH (W6.setCell ⟨n, c, none⟩ (.int .u32 (r6 : Int))).drew n 53 .u32 16 (gf l7)) := by
    have h := (HR6.out.set c r6).ext (Ext.drew (Ext.refl _))
    rw [gf_set hl6 hc, ← hr6] at h
    rw [← HL7.out, ← hr6]
    exact h
  have hl7 : W16 l7 := by rw [← HL7.out]; exact hl6.add _ _
  have HZ7 : Hid (RowH (W6.setCell ⟨n, c, none⟩ (.int .u32 (r6 : Int))).drew (n + 1) 53 .u32 16 (fun _ => 0)) := (RowH.other (by omega) HZ6.out ⟨_, _, _, HR6.out⟩).ext (Ext.drew (Ext.refl _))
  have HE7 : Hid (Ext w (W6.setCell ⟨n, c, none⟩ (.int .u32 (r6 : Int))).drew) := (Ext.st HN HE6.out).drew
  clear hr6 HR6 HZ6 HE6 hl6
  generalize gf l6 c = vi6 at ci6 hs6
  generalize gf l6 d = vj6 at cj6 hs6
  go_region
  go_wp2_with fail
  clear ci6 cj6 fi6 hs6
  generalize (W6.setCell ⟨n, c, none⟩ (.int .u32 (r6 : Int))).drew = W7 at *
  obtain ⟨ci7, fi7⟩ := HR7.out.tab.2 b hb
  have cj7 := (HR7.out.tab.2 c hc).1
  obtain ⟨r7, hr7⟩ : ∃ r7, rotl (gf l7 b ^^^ gf l7 c) 7 = r7 := ⟨_, rfl⟩
  obtain ⟨x7, hx7⟩ : ∃ x7, gf l7 b ^^^ gf l7 c = x7 := ⟨_, rfl⟩
  have hxo7 := u32_xor_nat (gf l7 b) (gf l7 c) (hl7.lt b) (hl7.lt c)
  have hxl7 : x7 < 4294967296 := by rw [← hx7]; exact Nat.xor_lt_two_pow (n := 32) (hl7.lt b) (hl7.lt c)
  rw [hx7] at hxo7
  obtain ⟨l8, HL8⟩ : ∃ l, Hid (qXor l7 b c 7 = l) := ⟨_, rfl⟩
  have HR8 : Hid (RowH (W7.setCell ⟨n, b, none⟩ (.int .u32 (r7 : Int))).drew n 53 .u32 16 (gf l8)) := by
    have h := (HR7.out.set b r7).ext (Ext.drew (Ext.refl _))
    rw [gf_set hl7 hb, ← hr7] at h
    rw [← HL8.out, ← hr7]
    exact h
  rw [hx7] at hr7
  have T7 : Hid (TurnC x7 r7 7) := by rw [← hr7]; exact turn_c x7 7 7 hxl7 (by decide) (by decide) rfl
  have hl8 : W16 l8 := by rw [← HL8.out]; exact hl7.xor _ _ _
  have HZ8 : Hid (RowH (W7.setCell ⟨n, b, none⟩ (.int .u32 (r7 : Int))).drew (n + 1) 53 .u32 16 (fun _ => 0)) := (RowH.other (by omega) HZ7.out ⟨_, _, _, HR7.out⟩).ext (Ext.drew (Ext.refl _))
  have HE8 : Hid (Ext w (W7.setCell ⟨n, b, none⟩ (.int .u32 (r7 : Int))).drew) := (Ext.st HN HE7.out).drew
  clear hr7 HR7 HZ7 HE7 hl7 hx7 hxl7
  generalize gf l7 b = vi7 at ci7 hxo7
  generalize gf l7 c = vj7 at cj7 hxo7
  go_cut [] (fun wx => wx = (W7.setCell ⟨n, b, none⟩ (.int .u32 (r7 : Int))).drew)
  case first =>
    go_region_with (go_at_call 62; with_reducible refine (TurnC.call T7.out _).mono ?_; rintro e _ ⟨rfl, rfl⟩)
    all_goals
      go_wp2_with fail
      go_meet
      exact rfl
  subst hcut
  clear ci7 cj7 fi7 hxo7 T7
  generalize (W7.setCell ⟨n, b, none⟩ (.int .u32 (r7 : Int))).drew = W8 at *
  have HQ : Hid (quart l0 a b c d = l8) := by
    show quart l0 a b c d = l8
    unfold quart
    rw [HL1.out, HL2.out, HL3.out, HL4.out, HL5.out, HL6.out, HL7.out, HL8.out]
  have HE9 : Hid (Ext w (W8.setRow (n + 1) (lst .u32 (gf l8) 16).toArray)) := HE8.out.row (Nat.le_succ_of_le HN) _
  go_wp2_with (first | (refine wpList_load_row rfl 53 _ rfl n rfl 53 (lst .u32 (gf l8) 16).toArray (0, 0) _ HR8.out Tryd.underlying53 rfl (by rw [Tryd.size53]; simp [lst_len]) ?_) | (refine wpList_store_row rfl 53 _ _ rfl (n + 1) (lst .u32 (gf l8) 16).toArray rfl rfl 53 _ HZ8.out (by rw [Tryd.size53]; simp [lst_len]) (by simp [lst_len]) (lst_one _ _ _) ?_))
  refine bodyPost_ret (v := .agg (lst .u32 (gf l8) 16).toArray) ?_ rfl ⟨by rw [HQ.out], HE9.out⟩
  exact results_cell_row Tryd.results48 _ _ (n + 1) 53 _ (0, 0) _ rfl (HZ8.out.row (gf l8)) Tryd.underlying53 rfl (by rw [Tryd.size53]; simp [lst_len])
end Go.Proofs.YtbcgipapbamgfaaDoor

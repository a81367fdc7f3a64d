/-
  poly.write, called.
-/
import Derived.Test.YtgpcnmdaplkpoaaPd
import Derived.Test.YtgpcnmdaplkpoaaPe
import Derived.Laws.BitsAllLaws
namespace Go.Proofs.Ytgpcnmdaplkpoaa
open Go.RowKit
theorem Try.size32 : (Try.prog.info? 32).map (·.size) = some 16 := by kernel_rfl
theorem or_low8 {x q k : Nat} (h : x < 2 ^ k) (hx : x < 256) (hq : q * 2 ^ k < 256) : bits BinOp.or IntKind.u8 (x : Int) ((q * 2 ^ k : Nat) : Int) = ((x + q * 2 ^ k : Nat) : Int) := by
  rw [u8_or_nat _ _ (by omega) (by omega), Nat.or_comm, Nat.mul_comm q, ← Nat.two_pow_add_eq_or_of_lt h, Nat.add_comm]
/-- Byte i of a number. -/
def nB (V i : Nat) : Nat := V / 2 ^ (8 * i) % 256
theorem write_num {c : Nat → Nat} (hc : ∀ j, j < 5 → c j < 67108864) (i : Nat) (hi : i < 16) : ∃ t a e x y b : Nat, IntKind.i64.wrap (8 * (i : Int)) = (t : Int) ∧ (t : Int).tdiv 26 = (a : Int) ∧ IntKind.i64.wrap (a : Int) = (a : Int) ∧ (t : Int).tmod 26 = (e : Int) ∧ IntKind.i64.wrap (e : Int) = (e : Int) ∧ e < 26 ∧ a < 5 ∧ c a = x ∧ (x : Int) / 2 ^ e = (y : Int) ∧ (y : Int) % 256 = (b : Int) ∧
    (¬ (18 : Int) < (e : Int) ∧ b = nB (v5 c) i ∨ (18 : Int) < (e : Int) ∧ ∃ x1 k y1 b2 : Nat, a + 1 < 5 ∧ IntKind.i64.wrap ((a : Int) + 1) = ((a + 1 : Nat) : Int) ∧ c (a + 1) = x1 ∧ IntKind.i64.wrap (26 - (e : Int)) = (k : Int) ∧ k < 8 ∧ IntKind.u64.wrap ((x1 : Int) * 2 ^ k) = (y1 : Int) ∧ (y1 : Int) % 256 = (b2 : Int) ∧ bits BinOp.or IntKind.u8 (b : Int) (b2 : Int) = ((nB (v5 c) i : Nat) : Int)) := by
  have h0 := hc 0 (by decide); have h1 := hc 1 (by decide); have h2 := hc 2 (by decide); have h3 := hc 3 (by decide); have h4 := hc 4 (by decide)
  refine ⟨8 * i, 8 * i / 26, 8 * i % 26, _, c (8 * i / 26) / 2 ^ (8 * i % 26), c (8 * i / 26) / 2 ^ (8 * i % 26) % 256, ?_, ?_, ?_, ?_, ?_, by omega, by omega, rfl, ?_, by omega, ?_⟩
  · rw [IntKind.wrap_i64]; omega
  · rw [Int.tdiv_eq_ediv_of_nonneg (by omega)]; omega
  · rw [IntKind.wrap_i64]; omega
  · rw [Int.tmod_eq_emod_of_nonneg (by omega)]; omega
  · rw [IntKind.wrap_i64]; omega
  · rw [show (2 : Int) ^ (8 * i % 26) = ((2 ^ (8 * i % 26) : Nat) : Int) from (Int.natCast_pow 2 _).symm, ← Int.natCast_ediv]
  obtain rfl | rfl | rfl | rfl | rfl | rfl | rfl | rfl | rfl | rfl | rfl | rfl | rfl | rfl | rfl | rfl : i = 0 ∨ i = 1 ∨ i = 2 ∨ i = 3 ∨ i = 4 ∨ i = 5 ∨ i = 6 ∨ i = 7 ∨ i = 8 ∨ i = 9 ∨ i = 10 ∨ i = 11 ∨ i = 12 ∨ i = 13 ∨ i = 14 ∨ i = 15 := by omega
  · exact Or.inl ⟨by decide, by show c 0 / 1 % 256 = v5 c / 1 % 256; unfold v5; omega⟩
  · exact Or.inl ⟨by decide, by show c 0 / 256 % 256 = v5 c / 256 % 256; unfold v5; omega⟩
  · exact Or.inl ⟨by decide, by show c 0 / 65536 % 256 = v5 c / 65536 % 256; unfold v5; omega⟩
  · refine Or.inr ⟨by decide, c 1, 2, c 1 * 4, c 1 * 4 % 256, by decide, by decide, rfl, by decide, by decide, ?_, by show ((c 1 * 4 : Nat) : Int) % 256 = ((c 1 * 4 % 256 : Nat) : Int); omega, ?_⟩
    · rw [IntKind.wrap_u64]; show ((c 1 : Int) * 4) % 18446744073709551616 = ((c 1 * 4 : Nat) : Int); omega
    · show bits BinOp.or IntKind.u8 ((c 0 / 16777216 % 256 : Nat) : Int) ((c 1 * 4 % 256 : Nat) : Int) = ((v5 c / 16777216 % 256 : Nat) : Int)
      rw [show c 1 * 4 % 256 = c 1 % 64 * 2 ^ 2 by omega, or_low8 (by omega) (by omega) (by omega)]
      have : c 0 / 16777216 % 256 + c 1 % 64 * 2 ^ 2 = v5 c / 16777216 % 256 := by unfold v5; omega
      rw [this]
  · exact Or.inl ⟨by decide, by show c 1 / 64 % 256 = v5 c / 4294967296 % 256; unfold v5; omega⟩
  · exact Or.inl ⟨by decide, by show c 1 / 16384 % 256 = v5 c / 1099511627776 % 256; unfold v5; omega⟩
  · refine Or.inr ⟨by decide, c 2, 4, c 2 * 16, c 2 * 16 % 256, by decide, by decide, rfl, by decide, by decide, ?_, by show ((c 2 * 16 : Nat) : Int) % 256 = ((c 2 * 16 % 256 : Nat) : Int); omega, ?_⟩
    · rw [IntKind.wrap_u64]; show ((c 2 : Int) * 16) % 18446744073709551616 = ((c 2 * 16 : Nat) : Int); omega
    · show bits BinOp.or IntKind.u8 ((c 1 / 4194304 % 256 : Nat) : Int) ((c 2 * 16 % 256 : Nat) : Int) = ((v5 c / 281474976710656 % 256 : Nat) : Int)
      rw [show c 2 * 16 % 256 = c 2 % 16 * 2 ^ 4 by omega, or_low8 (by omega) (by omega) (by omega)]
      have : c 1 / 4194304 % 256 + c 2 % 16 * 2 ^ 4 = v5 c / 281474976710656 % 256 := by unfold v5; omega
      rw [this]
  · exact Or.inl ⟨by decide, by show c 2 / 16 % 256 = v5 c / 72057594037927936 % 256; unfold v5; omega⟩
  · exact Or.inl ⟨by decide, by show c 2 / 4096 % 256 = v5 c / 18446744073709551616 % 256; unfold v5; omega⟩
  · refine Or.inr ⟨by decide, c 3, 6, c 3 * 64, c 3 * 64 % 256, by decide, by decide, rfl, by decide, by decide, ?_, by show ((c 3 * 64 : Nat) : Int) % 256 = ((c 3 * 64 % 256 : Nat) : Int); omega, ?_⟩
    · rw [IntKind.wrap_u64]; show ((c 3 : Int) * 64) % 18446744073709551616 = ((c 3 * 64 : Nat) : Int); omega
    · show bits BinOp.or IntKind.u8 ((c 2 / 1048576 % 256 : Nat) : Int) ((c 3 * 64 % 256 : Nat) : Int) = ((v5 c / 4722366482869645213696 % 256 : Nat) : Int)
      rw [show c 3 * 64 % 256 = c 3 % 4 * 2 ^ 6 by omega, or_low8 (by omega) (by omega) (by omega)]
      have : c 2 / 1048576 % 256 + c 3 % 4 * 2 ^ 6 = v5 c / 4722366482869645213696 % 256 := by unfold v5; omega
      rw [this]
  · exact Or.inl ⟨by decide, by show c 3 / 4 % 256 = v5 c / 1208925819614629174706176 % 256; unfold v5; omega⟩
  · exact Or.inl ⟨by decide, by show c 3 / 1024 % 256 = v5 c / 309485009821345068724781056 % 256; unfold v5; omega⟩
  · exact Or.inl ⟨by decide, by show c 3 / 262144 % 256 = v5 c / 79228162514264337593543950336 % 256; unfold v5; omega⟩
  · exact Or.inl ⟨by decide, by show c 4 / 1 % 256 = v5 c / 20282409603651670423947251286016 % 256; unfold v5; omega⟩
  · exact Or.inl ⟨by decide, by show c 4 / 256 % 256 = v5 c / 5192296858534827628530496329220096 % 256; unfold v5; omega⟩
  · exact Or.inl ⟨by decide, by show c 4 / 65536 % 256 = v5 c / 1329227995784915872903807060280344576 % 256; unfold v5; omega⟩
/-- What write holds: the number in block m, the bytes in block p. -/
def WS (w wr : World) (m p : Nat) (c F : Nat → Nat) : Prop := RowH wr m 42 .u64 5 c ∧ RowH wr p 32 .u8 16 F ∧ Ext w wr ∧ w.heap.size ≤ m ∧ m < p
theorem WS.drew {w wr : World} {m p : Nat} {c F : Nat → Nat} (h : WS w wr m p c F) : WS w wr.drew m p c F :=
  have hx : Ext wr wr.drew := (Ext.refl _).drew
  ⟨h.1.ext hx, h.2.1.ext hx, h.2.2.1.trans hx, h.2.2.2⟩
theorem WS.set {w wr : World} {m p : Nat} {c F : Nat → Nat} (h : WS w wr m p c F) (t v : Nat) : WS w (wr.setCell ⟨p, t, none⟩ (.int .u8 (v : Int))) m p c (put F t v) := by
  obtain ⟨h1, h2, h3, h4, h5⟩ := h
  exact ⟨RowH.other (by omega) h1 ⟨_, _, _, h2⟩, h2.set t v, Ext.st (by omega) h3, h4, h5⟩
/-- The bytes made, the rest 0. -/
def wp8 (V i j : Nat) : Nat := if j < i then nB V j else 0
theorem wp8_step (V i : Nat) : put (wp8 V i) i (nB V i) = wp8 V (i + 1) := by
  funext j
  unfold put wp8
  by_cases h : j = i
  · rw [if_pos h, if_pos (by omega), h]
  · rw [if_neg h]
    by_cases h2 : j < i
    · rw [if_pos h2, if_pos (by omega)]
    · rw [if_neg h2, if_neg (by omega)]
theorem wp8_twice (V i b : Nat) : put (put (wp8 V i) i b) i (nB V i) = wp8 V (i + 1) := by
  rw [← wp8_step]
  funext j
  unfold put
  split <;> rfl
theorem mkS_congr {T S : Nat → Nat} {n : Nat} (h : ∀ j, j < n → T j = S j) : mkS T n = mkS S n := by
  unfold mkS
  congr 2
  exact List.map_congr_left fun i hi => by rw [h i (List.mem_range.1 hi)]
set_option maxHeartbeats 2000000 in
theorem write_any (n : Nat → Nat) (hn : ∀ j, j < 5 → n j < 9223372036854775808) (w : World) :
    Calls Try.prog 17 #[L5 n] w fun e w' => e = .returned (.string (mkS (nB (v5 n)) 16)) ∧ Ext w w' := by
  obtain ⟨q, hq⟩ : ∃ q, cr n 5 = q := ⟨_, rfl⟩
  have HCar : Hid (∀ W, Calls Try.prog 23 #[L5 n] W fun e w' => e = .returned (.tuple #[L5 (cl n 5), .int .u64 (q : Int)]) ∧ Ext W w') := fun W => by
    have := carry_any n hn W
    rw [hq] at this
    exact this
  have HLt : Hid (∀ j, j < 5 → cl n 5 j < 67108864) := cl_lt n
  have HVal : Hid (mkS (nB (v5 (cl n 5))) 16 = mkS (nB (v5 n)) 16) := mkS_congr fun j hj => by
    rw [cl_mod]
    unfold nB
    have h1 : (2 : Nat) ^ 130 = 2 ^ (8 * j) * 2 ^ (130 - 8 * j) := by rw [← Nat.pow_add]; congr 1; omega
    rw [show (1361129467683753853853498429727072845824 : Nat) = 2 ^ 130 by decide, h1, Nat.mod_mul_right_div_self, Nat.mod_mod_of_dvd]
    exact Nat.pow_dvd_pow 2 (by omega : 8 ≤ 130 - 8 * j)
  rw [← HVal.out]
  have HR0 : RowH (w.alloc (.cells (lst .u64 n 5).toArray 42)) w.heap.size 42 .u64 5 n := by unfold RowH; rw [heap_alloc_new]
  have HE0 : Ext w (w.alloc (.cells (lst .u64 n 5).toArray 42)) := (Ext.refl w).alloc _
  generalize cl n 5 = c at *
  clear hq hn HVal
  go_enter Try.func17, Try.ntmps17
  go_wp2_with (first | (refine wpList_load_row rfl 42 _ rfl (w.heap.size) rfl 42 (lst .u64 (n) 5).toArray (0, 0) _ HR0 Try.underlying42 rfl (by rw [Try.size42]; simp [lst_len]) ?_))
  generalize w.alloc (.cells (lst .u64 n 5).toArray 42) = W0 at *
  generalize hgm : w.heap.size = m at *
  refine (HCar.out _).mono ?_
  rintro e w1 ⟨rfl, HX1⟩
  have HR1 := HR0.ext HX1
  have HE1 := HE0.trans HX1
  have HM : w.heap.size ≤ m := Nat.le_of_eq hgm
  have HR2 := HR1.row c
  have HE2 := Ext.row HE1 HM (lst .u64 c 5).toArray
  have H0 : Hid (WS w ((w1.setRow m (lst .u64 c 5).toArray).alloc (.cells #[.int .u8 0, .int .u8 0, .int .u8 0, .int .u8 0, .int .u8 0, .int .u8 0, .int .u8 0, .int .u8 0, .int .u8 0, .int .u8 0, .int .u8 0, .int .u8 0, .int .u8 0, .int .u8 0, .int .u8 0, .int .u8 0] 32)) m w1.heap.size c (wp8 (v5 c) 0)) := by
    have hz : (w1.setRow m (lst .u64 c 5).toArray).heap.size = w1.heap.size := by simp [World.setRow]
    have h := RowH.new (w1.setRow m (lst .u64 c 5).toArray) .u8 16 32
    rw [hz] at h
    exact ⟨HR2.ext ((Ext.refl _).alloc _), h, HE2.alloc _, HM, HR1.lt⟩
  clear HR0 HE0 HX1 HE1 HM HR2 HE2 HCar hgm
  go_wp2_with (first | (refine wpList_store_row rfl 42 _ _ rfl (m) (lst .u64 (c) 5).toArray rfl rfl 42 _ HR1 (by rw [Try.size42]; simp [lst_len]) (by simp [lst_len]) (lst_one _ _ _) ?_))
  clear HR1
  generalize (w1.setRow m (lst .u64 c 5).toArray).alloc (.cells #[.int .u8 0, .int .u8 0, .int .u8 0, .int .u8 0, .int .u8 0, .int .u8 0, .int .u8 0, .int .u8 0, .int .u8 0, .int .u8 0, .int .u8 0, .int .u8 0, .int .u8 0, .int .u8 0, .int .u8 0, .int .u8 0] 32) = W2 at *
  generalize w1.heap.size = p at *
  clear w1
  go_loopw [12] (fun u12 wr => ∃ (i : Nat), i ≤ 16 ∧ u12 = .int .i64 i ∧ Hid (WS w wr m p c (wp8 (v5 c) i))) (fun u12 _ => 16 - (intOf u12).toNat)
  case atStart => exact ⟨0, by omega, rfl, H0⟩
  case round =>
    clear H0
    obtain ⟨i, hi16, rfl, HC⟩ := hrel
    by_cases hil : i < 16
    · have hi1 : (i : Int) < 16 := by omega
      have hi0 : (0 : Int) ≤ (i : Int) := by omega
      obtain ⟨t, a, e, x, y, b, m1, m2, m3, m4, m5, he, ha, gx, m6, m7, hcase⟩ := write_num HLt.out i hil
      have c1 := (HC.out.1.tab.2 a ha).1
      rw [gx] at c1
      obtain ⟨c2, f2⟩ := HC.out.2.1.tab.2 i hil
      have HC1 : Hid (WS w (wr.setCell ⟨p, i, none⟩ (.int .u8 (b : Int))) m p c (put (wp8 (v5 c) i) i b)) := HC.out.set i b
      have a0 : (0 : Int) ≤ (a : Int) := by omega
      have a1 : (a : Int) < 5 := by omega
      have e0 : (0 : Int) ≤ (e : Int) := by omega
      clear HC gx
      rcases hcase with ⟨h18, hb⟩ | ⟨h18, x1, k, y1, b2, l1, n1, g1, n2, n3, n4, n5, n6⟩
      · have HC2 : Hid (WS w (wr.setCell ⟨p, i, none⟩ (.int .u8 (b : Int))) m p c (wp8 (v5 c) (i + 1))) := by
          have h := HC1.out
          rw [hb, wp8_step] at h
          rw [hb]
          exact h
        clear HC1 hb
        go_wp2_with fail
        go_roundw
        case rel => exact ⟨i + 1, hil, by go_num, HC2⟩
        case measure => simp [intOf]; omega
      · go_wp2_with fail
        clear c1 c2 f2
        generalize wr.setCell ⟨p, i, none⟩ (.int .u8 (b : Int)) = W3 at *
        have HC2 : Hid (WS w W3.drew m p c (put (wp8 (v5 c) i) i b)) := HC1.out.drew
        clear HC1
        refine wp_region_noPanic ?_
        refine wp_region_until (X := 13) (S := fun wx => wx = W3.drew) (by kernel_rfl) ?_
        generalize W3.drew = W4 at *
        have d1 := (HC2.out.1.tab.2 (a + 1) l1).1
        rw [g1] at d1
        obtain ⟨d2, f2⟩ := HC2.out.2.1.tab.2 i hil
        rw [put_same] at d2
        have HC3 : Hid (WS w (W4.setCell ⟨p, i, none⟩ (.int .u8 ((nB (v5 c) i : Nat) : Int))) m p c (wp8 (v5 c) (i + 1))) := by
          have h := HC2.out.set i (nB (v5 c) i)
          rw [wp8_twice] at h
          exact h
        generalize nB (v5 c) i = nb at *
        have a2 : (0 : Int) ≤ (a : Int) + 1 := by omega
        have a3 : (a : Int) + 1 < 5 := by omega
        have k0 : (0 : Int) ≤ (k : Int) := by omega
        clear HC2 g1
        refine until_take (i := 0) (v := ?v0) rfl (by kernel_rfl) (by kernel_rfl) (by kernel_rfl) (by kernel_rfl) (by kernel_rfl) (fun _ _ _ h => h) rfl ?hy0 rfl ?rest0
        case hy0 => (intro w hSw; subst hSw; go_simp; try with_reducible rfl)
        try simp only [Act.put, List.setIfInBounds_toArray, List.set_cons_zero, List.set_cons_succ]
        refine until_take (i := 1) (v := ?v1) rfl (by kernel_rfl) (by kernel_rfl) (by kernel_rfl) (by kernel_rfl) (by kernel_rfl) (fun _ _ _ h => h) rfl ?hy1 rfl ?rest1
        case hy1 => (intro w hSw; subst hSw; go_simp; try with_reducible rfl)
        try simp only [Act.put, List.setIfInBounds_toArray, List.set_cons_zero, List.set_cons_succ]
        refine until_take (i := 2) (v := ?v2) rfl (by kernel_rfl) (by kernel_rfl) (by kernel_rfl) (by kernel_rfl) (by kernel_rfl) (fun _ _ _ h => h) rfl ?hy2 rfl ?rest2
        case hy2 => (intro w hSw; subst hSw; go_simp; try with_reducible rfl)
        try simp only [Act.put, List.setIfInBounds_toArray, List.set_cons_zero, List.set_cons_succ]
        refine until_take (i := 3) (v := ?v3) rfl (by kernel_rfl) (by kernel_rfl) (by kernel_rfl) (by kernel_rfl) (by kernel_rfl) (fun _ _ _ h => h) rfl ?hy3 rfl ?rest3
        case hy3 => (intro w hSw; subst hSw; go_simp; try with_reducible rfl)
        try simp only [Act.put, List.setIfInBounds_toArray, List.set_cons_zero, List.set_cons_succ]
        refine until_take (i := 4) (v := ?v4) rfl (by kernel_rfl) (by kernel_rfl) (by kernel_rfl) (by kernel_rfl) (by kernel_rfl) (fun _ _ _ h => h) rfl ?hy4 rfl ?rest4
        case hy4 => (intro w hSw; subst hSw; go_simp; try with_reducible rfl)
        try simp only [Act.put, List.setIfInBounds_toArray, List.set_cons_zero, List.set_cons_succ]
        refine until_take (i := 5) (v := ?v5) rfl (by kernel_rfl) (by kernel_rfl) (by kernel_rfl) (by kernel_rfl) (by kernel_rfl) (fun _ _ _ h => h) rfl ?hy5 rfl ?rest5
        case hy5 => (intro w hSw; subst hSw; go_simp; try with_reducible rfl)
        try simp only [Act.put, List.setIfInBounds_toArray, List.set_cons_zero, List.set_cons_succ]
        refine until_take (i := 6) (v := ?v6) rfl (by kernel_rfl) (by kernel_rfl) (by kernel_rfl) (by kernel_rfl) (by kernel_rfl) (fun _ _ _ h => h) rfl ?hy6 rfl ?rest6
        case hy6 => (intro w hSw; subst hSw; go_simp; try with_reducible rfl)
        try simp only [Act.put, List.setIfInBounds_toArray, List.set_cons_zero, List.set_cons_succ]
        refine until_take (i := 7) (v := ?v7) rfl (by kernel_rfl) (by kernel_rfl) (by kernel_rfl) (by kernel_rfl) (by kernel_rfl) (fun _ _ _ h => h) rfl ?hy7 rfl ?rest7
        case hy7 => (intro w hSw; subst hSw; go_simp; try with_reducible rfl)
        try simp only [Act.put, List.setIfInBounds_toArray, List.set_cons_zero, List.set_cons_succ]
        refine until_take (i := 8) (v := ?v8) rfl (by kernel_rfl) (by kernel_rfl) (by kernel_rfl) (by kernel_rfl) (by kernel_rfl) (fun _ _ _ h => h) rfl ?hy8 rfl ?rest8
        case hy8 => (intro w hSw; subst hSw; go_simp; try with_reducible rfl)
        try simp only [Act.put, List.setIfInBounds_toArray, List.set_cons_zero, List.set_cons_succ]
        refine until_take (i := 9) (v := ?v9) rfl (by kernel_rfl) (by kernel_rfl) (by kernel_rfl) (by kernel_rfl) (by kernel_rfl) (fun _ _ _ h => h) rfl ?hy9 rfl ?rest9
        case hy9 => (intro w hSw; subst hSw; go_simp; try with_reducible rfl)
        try simp only [Act.put, List.setIfInBounds_toArray, List.set_cons_zero, List.set_cons_succ]
        refine until_take (i := 10) (v := ?v10) rfl (by kernel_rfl) (by kernel_rfl) (by kernel_rfl) (by kernel_rfl) (by kernel_rfl) (fun _ _ _ h => h) rfl ?hy10 rfl ?rest10
        case hy10 => (intro w hSw; subst hSw; go_simp; try with_reducible rfl)
        try simp only [Act.put, List.setIfInBounds_toArray, List.set_cons_zero, List.set_cons_succ]
        refine until_take (i := 11) (v := ?v11) rfl (by kernel_rfl) (by kernel_rfl) (by kernel_rfl) (by kernel_rfl) (by kernel_rfl) (fun _ _ _ h => h) rfl ?hy11 rfl ?rest11
        case hy11 => (intro w hSw; subst hSw; go_simp; try with_reducible rfl)
        try simp only [Act.put, List.setIfInBounds_toArray, List.set_cons_zero, List.set_cons_succ]
        refine until_take (i := 12) (v := ?v12) rfl (by kernel_rfl) (by kernel_rfl) (by kernel_rfl) (by kernel_rfl) (by kernel_rfl) (fun _ _ _ h => h) rfl ?hy12 rfl ?rest12
        case hy12 => (intro w hSw; subst hSw; go_simp; try with_reducible rfl)
        try simp only [Act.put, List.setIfInBounds_toArray, List.set_cons_zero, List.set_cons_succ]
        refine until_last (by kernel_rfl) (by kernel_rfl) rfl rfl (fun K hK => ?_)
        go_simp
        refine hK.out _ _ (NoPanic.normal ?_)
        clear hK K
        go_wp2_with fail
        go_roundw
        case rel => exact ⟨i + 1, hil, by go_num, by rw [n5, n6]; exact HC3⟩
        case measure => simp [intOf]; omega
    · have HI : Hid (i = 16) := (by omega : i = 16)
      have hni : ¬ (i : Int) < 16 := by omega
      rw [HI.out] at HC
      have HS := HC.out.2.1.tab.slice (c := 16) (by decide)
      rw [show lst .u8 (wp8 (v5 c) 16) 16 = lst .u8 (nB (v5 c)) 16 from lst_congr (fun k hk => if_pos hk)] at HS
      have hcv := run_lst_string Try.prog 5 35 9 Try.underlying35 Try.underlying5 Try.underlying9 wr (nB (v5 c)) 16 _ HS (by decide)
      go_wp2_with fail
      go_ret
      exact ⟨rfl, HC.out.2.2.1⟩
end Go.Proofs.Ytgpcnmdaplkpoaa

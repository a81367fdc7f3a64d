/-
  poly.Mac, called: THE FACE of the program (with Clamp of Ph).
-/
import Derived.Test.YtbcgipapbamgfaaDoorPd
import Derived.Test.YtbcgipapbamgfaaDoorPMore
namespace Go.Proofs.YtbcgipapbamgfaaDoor
open Go.RowKit
theorem leN_zero {T : Nat → Nat} {m : Nat} (h : ∀ j, m ≤ j → T j = 0) : ∀ n, m ≤ n → leN T n = leN T m
  | 0, hn => by rw [show m = 0 by omega]
  | n + 1, hn => by
    by_cases e : m = n + 1
    · rw [e]
    · unfold leN
      rw [leN_zero h n (by omega), h n (by omega), Nat.zero_mul, Nat.add_zero]
      cases m <;> rfl
theorem leN_fl (T : Nat → Nat) (L e : Nat) : leN (fl T L e) 17 = leN T (min L 16) + e * 2 ^ (8 * min L 16) := by
  rw [leN_zero (m := min L 16 + 1) (fun j hj => by unfold fl; rw [if_neg (by omega), if_neg (by omega)]) 17 (by omega)]
  show leN (fl T L e) (min L 16) + fl T L e (min L 16) * 2 ^ (8 * min L 16) = _
  rw [leN_congr (T := fl T L e) (S := T) (min L 16) (fun j hj => if_pos hj)]
  congr 1
  unfold fl
  rw [if_neg (by omega), if_pos rfl]
theorem fl_lt {T : Nat → Nat} (h : ∀ j, T j < 256) {L e : Nat} (he : e < 256) (j : Nat) : fl T L e j < 256 := by
  unfold fl
  have := h j
  split
  · exact this
  · split <;> omega
theorem fl_top (T : Nat → Nat) (L e : Nat) (he : e < 4) : fl T L e 16 < 4 := by
  unfold fl
  rw [if_neg (by omega)]
  split <;> omega
theorem v5_add (a b : Nat → Nat) : v5 (fun j => a j + b j) = v5 a + v5 b := by simp only [v5]; omega
/-- The limbs of a text's block. -/
def bl (t : ByteArray) (e : Nat) : Nat → Nat := lm (fl (sb t) t.size e)
theorem bl_val (t : ByteArray) (e : Nat) (he : e < 4) : v5 (bl t e) = leN (sb t) (min t.size 16) + e * 2 ^ (8 * min t.size 16) := by
  unfold bl
  rw [lm_val (fl_lt (sb_lt t) (by omega)) (fl_top _ _ _ he), leN_fl]
theorem bl_lt (t : ByteArray) (e j : Nat) : bl t e j < 67108864 := lm_lt _ _
theorem bl_key (key : ByteArray) (hk : key.size = 32) : v5 (bl (clS (key.extract 0 16)) 0) = keyR key := by
  rw [bl_val _ _ (by decide), Nat.zero_mul, Nat.add_zero, clS_size, ← clS_num key hk]
  rfl
theorem bl_end (key : ByteArray) (hk : key.size = 32) : v5 (bl (key.extract 16 32) 0) = keyA key := by
  have hz : (key.extract 16 32).size = 16 := by rw [size_ext (by omega)]
  rw [bl_val _ _ (by decide), Nat.zero_mul, Nat.add_zero, hz]
  exact leN_congr 16 fun j hj => sb_ext j (by omega) (by omega)
theorem bl_blk (s : ByteArray) (k : Nat) (hk : 16 * k < s.size) : v5 (bl (s.extract (16 * k) s.size) 1) = blkN (sb s) s.size k := by
  have hz : (s.extract (16 * k) s.size).size = s.size - 16 * k := size_ext (Nat.le_refl _)
  rw [bl_val _ _ (by decide), Nat.one_mul, hz]
  unfold blkN blkM
  rw [Nat.min_comm 16]
  congr 1
  exact leN_congr _ fun j hj => sb_ext j (by omega) (Nat.le_refl _)
theorem mul_step {A x P k r : Nat} (h : A % P = x) : (A + k) * r % P = (x + k) * r % P := by
  rw [← h, Nat.mul_mod (A + k), Nat.mul_mod (A % P + k), Nat.mod_add_mod]
theorem exec_load_row {P : Program} {o : Oper} {a : Act} {w : World} (ty : TypeId) (x : Operand) (ho : o.op = .load ty x) (g : Nat) (hx : a.eval x = .pointer (some ⟨g, 0, none⟩)) {n m : Nat} {t e : TypeId} {kd : IntKind} {T : Nat → Nat} (h : RowH w g t kd n T)
    (hu : P.underlying ty = some (.array m e)) (hi : (P.info? ty).map (·.size) = some n) : (execOp a.eval o).run P w = .ok (.value (.agg (lst kd T n).toArray)) w := by
  unfold execOp
  simp only [ho, hx, Instr.loadAt, Instr.sureAddr, Sem.run_bind, Sem.run_pure, Result.andThen_ok, h.load ty hu hi]
/-- What Mac holds: the block g, the factor h, what is gathered behind it. -/
def MT (w : World) (g h : Nat) (B R A : Nat → Nat) (wx : World) : Prop := RowH wx g 73 .u8 17 B ∧ RowH wx h 77 .u64 5 R ∧ RowH wx (h + 1) 77 .u64 5 A ∧ Ext w wx ∧ w.heap.size ≤ g ∧ g < h
theorem MT.ext {w wx w2 : World} {g h : Nat} {B R A : Nat → Nat} (q : MT w g h B R A wx) (hx : Ext wx w2) : MT w g h B R A w2 :=
  ⟨q.1.ext hx, q.2.1.ext hx, q.2.2.1.ext hx, q.2.2.2.1.trans hx, q.2.2.2.2⟩
theorem MT.fill {w wx w2 : World} {g h : Nat} {B R A B2 : Nat → Nat} (q : MT w g h B R A wx) (hr : RowH w2 g 73 .u8 17 B2) (hg : wx.grownBy w2 (some g)) : MT w g h B2 R A w2 := by
  obtain ⟨h1, h2, h3, h4, h5, h6⟩ := q
  exact ⟨hr, h2.grown hg (by omega), h3.grown hg (by omega), ext_grown h4 hg (fun k hk => by injection hk with hk; omega), h5, h6⟩
theorem MT.row {w wx : World} {g h : Nat} {B R A : Nat → Nat} (q : MT w g h B R A wx) (S : Nat → Nat) : MT w g h B R S (wx.setRow (h + 1) (lst .u64 S 5).toArray) := by
  obtain ⟨h1, h2, h3, h4, h5, h6⟩ := q
  exact ⟨(setRow_other wx (h + 1) g _ (by omega)).trans h1, (setRow_other wx (h + 1) h _ (by omega)).trans h2, h3.row S, Ext.row h4 (by omega) _, h5, h6⟩
theorem pmac_bad (key s : ByteArray) (h : key.size ≠ 32) (w : World) :
    Calls Tryd.prog 23 #[.string key, .string s] w fun e w' => e = .returned (.tuple #[.string ⟨#[]⟩, .int .i64 2]) ∧ Ext w w' := by
  have h1 : ¬ (key.size : Int) = 32 := by omega
  go_enter Tryd.func23, Tryd.ntmps23
  go_wp2
  refine bodyPost_ret (v := .tuple #[.string ⟨#[]⟩, .int .i64 2]) (by simp [results, Tryd.results23, go_sem]) rfl ⟨rfl, Ext.refl _⟩
def FillC (e : Nat) (ei : Int) : Prop := ∀ (t : ByteArray) (g : Nat) (B : Nat → Nat) (W : World), RowH W g 73 .u8 17 B → Calls Tryd.prog 39 #[.pointer (some ⟨g, 0, none⟩), .string t, .int .u8 ei] W fun r w' => r = .returned (.tuple #[]) ∧ RowH w' g 73 .u8 17 (fl (sb t) t.size e) ∧ W.grownBy w' (some g)
def ReadC (t : ByteArray) (e : Nat) : Prop := ∀ (g : Nat) (W : World), RowH W g 73 .u8 17 (fl (sb t) t.size e) → Calls Tryd.prog 40 #[.pointer (some ⟨g, 0, none⟩)] W fun r w' => r = .returned (L5 (bl t e)) ∧ Ext W w'
set_option maxRecDepth 10000 in
set_option maxHeartbeats 4000000 in
theorem pmac_any (key s : ByteArray) (hk : key.size = 32) (hs : s.size ≤ 100000) (w : World) :
    Calls Tryd.prog 23 #[.string key, .string s] w fun e w' => e = .returned (.tuple #[.string (macS key s), .int .i64 0]) ∧ Ext w w' := by
  have h1 : (key.size : Int) = 32 := by omega
  have HCl : Hid (∀ W, Calls Tryd.prog 38 #[.string (key.extract 0 16)] W fun e w' => e = .returned (.tuple #[.string (clS (key.extract 0 16)), .int .i64 0]) ∧ Ext W w') := fun W => pclamp_any _ (by rw [size_ext (by omega)]) W
  have HF0 : Hid (FillC 0 0) := fun t g B W h => fill_any t 0 g B W h
  have HF1 : Hid (FillC 1 1) := fun t g B W h => fill_any t 1 g B W h
  have HRd : Hid (∀ t e, e < 4 → ReadC t e) := fun t e he g W h => read_any _ (fl_lt (sb_lt t) (by omega)) g W h
  obtain ⟨kc, hkc⟩ : ∃ kc, clS (key.extract 0 16) = kc := ⟨_, rfl⟩
  obtain ⟨L, hL⟩ : ∃ L, s.size = L := ⟨_, rfl⟩
  have HL : Hid (s.size = L) := hL
  obtain ⟨R, hR⟩ : ∃ R, bl kc 0 = R := ⟨_, rfl⟩
  have HRk : Hid (v5 R = keyR key ∧ ∀ j, j < 5 → R j ≤ 67108864) := ⟨by rw [← hR, ← hkc]; exact bl_key key hk, fun j _ => by rw [← hR]; exact Nat.le_of_lt (bl_lt _ _ _)⟩
  have HRdk : Hid (∀ (g : Nat) (W : World), RowH W g 73 .u8 17 (fl (sb kc) kc.size 0) → Calls Tryd.prog 40 #[.pointer (some ⟨g, 0, none⟩)] W fun r w' => r = .returned (L5 R) ∧ Ext W w') := fun g W h => by
    have := HRd.out kc 0 (by decide) g W h
    rw [hR] at this
    exact this
  have HEk : Hid (v5 (bl (key.extract 16 32) 0) = keyA key) := bl_end key hk
  have HBk : Hid (∀ k, 16 * k < L → v5 (bl (s.extract (16 * k) s.size) 1) = blkN (sb s) L k) := fun k hk => by rw [← hL] at hk ⊢; exact bl_blk s k hk
  have HV : Hid (macS key s = mkS (nB (pacc (sb s) L (keyR key) ((L + 15) / 16) + keyA key)) 16) := by rw [← hL]; rfl
  generalize macS key s = MS at *
  rw [hkc] at HCl
  have hls : (s.size : Int) = (L : Int) := by omega
  have HK32 : Hid (key.size = 32) := hk
  clear hkc hR hL hk
  go_enter Tryd.func23, Tryd.ntmps23
  go_wp2_with fail
  refine (HCl.out _).mono ?_
  rintro e w1 ⟨rfl, HX1⟩
  go_wp2_with fail
  have HB0 : RowH (w1.alloc (.cells #[.int .u8 0, .int .u8 0, .int .u8 0, .int .u8 0, .int .u8 0, .int .u8 0, .int .u8 0, .int .u8 0, .int .u8 0, .int .u8 0, .int .u8 0, .int .u8 0, .int .u8 0, .int .u8 0, .int .u8 0, .int .u8 0, .int .u8 0] 73)) w1.heap.size 73 .u8 17 (fun _ => 0) := RowH.new w1 .u8 17 73
  refine (HF0.out _ _ _ _ HB0).mono ?_
  rintro e w2 ⟨rfl, HB2, HG2⟩
  have HE2 : Ext w w2 := ext_grown (HX1.alloc _) HG2 (fun k hk => by injection hk with hk; rw [← hk]; exact HX1.size)
  have HGw : w.heap.size ≤ w1.heap.size := HX1.size
  clear HX1 HG2 HB0 HCl
  generalize w1.heap.size = g at *
  go_wp2_with fail
  refine (HRdk.out _ _ HB2).mono ?_
  rintro e w3 ⟨rfl, HX3⟩
  have HB3 := HB2.ext HX3
  have HE3 := HE2.trans HX3
  clear HB2 HE2 HX3 HRdk
  have HA : RowH (w3.alloc (.cells #[.int .u64 0, .int .u64 0, .int .u64 0, .int .u64 0, .int .u64 0] 77)) w3.heap.size 77 .u64 5 (fun _ => 0) := RowH.new w3 .u64 5 77
  have H0 : Hid (∃ B A, MT w g w3.heap.size B R A (((w3.alloc (.cells #[.int .u64 0, .int .u64 0, .int .u64 0, .int .u64 0, .int .u64 0] 77)).setRow w3.heap.size (lst .u64 R 5).toArray).alloc (.cells #[.int .u64 0, .int .u64 0, .int .u64 0, .int .u64 0, .int .u64 0] 77)) ∧ Sm A ∧ v5 A % P13n = pacc (sb s) L (keyR key) 0) := by
    have hx1 : Ext w3 ((w3.alloc (.cells #[.int .u64 0, .int .u64 0, .int .u64 0, .int .u64 0, .int .u64 0] 77)).setRow w3.heap.size (lst .u64 R 5).toArray) := ((Ext.refl w3).alloc _).row (Nat.le_refl _) _
    have hx2 := hx1.alloc (.cells #[.int .u64 0, .int .u64 0, .int .u64 0, .int .u64 0, .int .u64 0] 77)
    have hN := RowH.new ((w3.alloc (.cells #[.int .u64 0, .int .u64 0, .int .u64 0, .int .u64 0, .int .u64 0] 77)).setRow w3.heap.size (lst .u64 R 5).toArray) .u64 5 77
    rw [show ((w3.alloc (.cells #[.int .u64 0, .int .u64 0, .int .u64 0, .int .u64 0, .int .u64 0] 77)).setRow w3.heap.size (lst .u64 R 5).toArray).heap.size = w3.heap.size + 1 by simp [World.setRow]] at hN
    exact ⟨_, _, ⟨HB3.ext hx2, (HA.row R).ext ((Ext.refl _).alloc _), hN, HE3.trans hx2, HGw, HB3.lt⟩, ⟨Nat.zero_le _, fun _ _ _ => Nat.zero_le _⟩, rfl⟩
  go_wp2_with (first | (refine wpList_store_row rfl 77 _ _ rfl (w3.heap.size) (lst .u64 (R) 5).toArray rfl rfl 77 _ HA (by rw [Tryd.size77]; simp [lst_len]) (by simp [lst_len]) (lst_one _ _ _) ?_))
  clear HA HB3 HE3 HGw
  generalize (((w3.alloc (.cells #[.int .u64 0, .int .u64 0, .int .u64 0, .int .u64 0, .int .u64 0] 77)).setRow w3.heap.size (lst .u64 R 5).toArray).alloc (.cells #[.int .u64 0, .int .u64 0, .int .u64 0, .int .u64 0, .int .u64 0] 77)) = W4 at *
  generalize w3.heap.size = h at *
  clear w3 w2 w1
  go_loopw [11] (fun u11 wr => ∃ (k f : Nat), f = 16 * k ∧ k ≤ (L + 15) / 16 ∧ u11 = .int .i64 f ∧ Hid (∃ B A, MT w g h B R A wr ∧ Sm A ∧ v5 A % P13n = pacc (sb s) L (keyR key) k)) (fun u11 _ => (L + 16) - (intOf u11).toNat)
  case atStart => exact ⟨0, 0, rfl, by omega, rfl, H0⟩
  case round =>
    clear H0
    obtain ⟨k, f, hfk, hkl, rfl, HC⟩ := hrel
    have HK : Hid (f = 16 * k ∧ k ≤ (L + 15) / 16) := ⟨hfk, hkl⟩
    clear hfk hkl
    by_cases hil : f < L
    · have hi1 : (f : Int) < (L : Int) := by omega
      have hi0 : (0 : Int) ≤ (f : Int) := by omega
      have hi2 : (f : Int) ≤ (s.size : Int) := by omega
      obtain ⟨B, A, HM, HSm, HVa⟩ := HC.out
      have HM : Hid (MT w g h B R A wr) := HM
      have HSm : Hid (Sm A) := HSm
      have HVa : Hid (v5 A % P13n = pacc (sb s) L (keyR key) k) := HVa
      clear HC
      go_wp2_with fail
      refine (HF1.out _ _ _ _ HM.out.1).mono ?_
      rintro e w5 ⟨rfl, HB5, HG5⟩
      have HM5 : Hid (MT w g h (fl (sb (s.extract f s.size)) (s.extract f s.size).size 1) R A w5.drew) := (HM.out.fill HB5 HG5).ext ((Ext.refl _).drew)
      have HRb : Hid (ReadC (s.extract f s.size) 1) := HRd.out _ 1 (by decide)
      obtain ⟨b, hb⟩ : ∃ b, bl (s.extract f s.size) 1 = b := ⟨_, rfl⟩
      have HVb : Hid (v5 b = blkN (sb s) L k) := by
        have e := HBk.out k (by have := HK.out.1; omega)
        rw [← hb, HK.out.1]
        exact e
      have HLb : Hid (∀ j, j < 5 → b j < 67108864) := fun j _ => by rw [← hb]; exact bl_lt _ _ _
      unfold ReadC at HRb
      rw [hb] at HRb
      generalize fl (sb (s.extract f s.size)) (s.extract f s.size).size 1 = B5 at *
      clear HM HB5 HG5 hb
      have HPl : Hid (∀ W, Calls Tryd.prog 42 #[L5 A, L5 b] W fun e w' => e = .returned (L5 fun j => A j + b j) ∧ Ext W w') := fun W => plus_any A b (fun j hj => by have := HSm.out.le j hj; have := HLb.out j hj; omega) W
      have HTm : Hid (∀ W, Calls Tryd.prog 41 #[L5 fun j => A j + b j, L5 R] W fun e w' => e = .returned (L5 (tmR (fun j => A j + b j) R)) ∧ Ext W w') := fun W => times_any _ R (fun j hj => by have := HSm.out.le j hj; have := HLb.out j hj; show A j + b j ≤ _; omega) HRk.out.2 W
      have HSn : Hid (Sm (tmR (fun j => A j + b j) R) ∧ v5 (tmR (fun j => A j + b j) R) % P13n = pacc (sb s) L (keyR key) (k + 1)) := by
        refine ⟨tmR_small (fun j hj => by have := HSm.out.le j hj; have := HLb.out j hj; show A j + b j ≤ _; omega) HRk.out.2, ?_⟩
        show v5 (tmR (fun j => A j + b j) R) % 1361129467683753853853498429727072845819 = _
        rw [tmR_mod, v5_add, HVb.out, HRk.out.1]
        exact mul_step HVa.out
      generalize tmR (fun j => A j + b j) R = A2 at *
      generalize (fun j => A j + b j) = Ab at *
      clear HVb HLb HSm HVa
      go_wp2_with fail
      refine wp_region_noPanic ?_
      refine wp_region_until (X := 5) (S := MT w g h B5 R A) (by kernel_rfl) ?_
      refine until_take (i := 0) (v := ?v0) rfl (by kernel_rfl) (by kernel_rfl) (by kernel_rfl) (by kernel_rfl) (by kernel_rfl) (fun _ _ _ h => h) rfl ?hy0 HM5.out ?rest0
      case hy0 => (intro w hSw; refine exec_load_row 77 (.tmp 10) ?_ _ ?_ hSw.2.2.1 Tryd.underlying77 Tryd.size77 <;> rfl)
      try simp only [Act.put, List.setIfInBounds_toArray, List.set_cons_zero, List.set_cons_succ]
      refine until_take (i := 3) (v := ?v3) rfl (by kernel_rfl) (by kernel_rfl) (by kernel_rfl) (by kernel_rfl) (by kernel_rfl) (fun _ _ _ h => h) rfl ?hy3 HM5.out ?rest3
      case hy3 => (intro w hSw; refine exec_load_row 77 (.tmp 9) ?_ _ ?_ hSw.2.1 Tryd.underlying77 Tryd.size77 <;> rfl)
      try simp only [Act.put, List.setIfInBounds_toArray, List.set_cons_zero, List.set_cons_succ]
      refine until_one (i := 1) (by kernel_rfl) (by kernel_rfl) rfl rfl (fun K hK => ?_)
      go_simp
      refine (HRb.out _ _ HM5.out.1).mono ?_
      rintro e w6 ⟨rfl, HX6⟩
      have HM6 : Hid (MT w g h B5 R A w6) := HM5.out.ext HX6
      clear HX6 HM5
      go_simp
      refine hK.out _ _ HM6.out ?_
      clear hK K
      try simp only [Act.put, List.setIfInBounds_toArray, List.set_cons_zero, List.set_cons_succ]
      refine until_one (i := 2) (by kernel_rfl) (by kernel_rfl) rfl rfl (fun K hK => ?_)
      go_simp
      refine (HPl.out _).mono ?_
      rintro e w7 ⟨rfl, HX7⟩
      have HM7 : Hid (MT w g h B5 R A w7) := HM6.out.ext HX7
      clear HX7 HM6
      go_simp
      refine hK.out _ _ HM7.out ?_
      clear hK K
      try simp only [Act.put, List.setIfInBounds_toArray, List.set_cons_zero, List.set_cons_succ]
      refine until_one (i := 4) (by kernel_rfl) (by kernel_rfl) rfl rfl (fun K hK => ?_)
      go_simp
      refine (HTm.out _).mono ?_
      rintro e w8 ⟨rfl, HX8⟩
      have HM8 : Hid (MT w g h B5 R A w8) := HM7.out.ext HX8
      clear HX8 HM7
      go_simp
      refine hK.out _ _ HM8.out ?_
      clear hK K
      try simp only [Act.put, List.setIfInBounds_toArray, List.set_cons_zero, List.set_cons_succ]
      have hst := HM8.out.2.2.1
      have HM9 : Hid (MT w g h B5 R A2 (w8.setRow (h + 1) (lst .u64 A2 5).toArray)) := HM8.out.row A2
      clear HM8
      refine until_last (by kernel_rfl) (by kernel_rfl) rfl rfl (fun K hK => ?_)
      refine wp_store_row 77 _ _ rfl (h + 1) (lst .u64 A2 5).toArray rfl rfl 77 _ hst (by rw [Tryd.size77]; simp [lst_len]) (by simp [lst_len]) (lst_one _ _ _) (hK.out _ _ (NoPanic.normal ?_))
      clear hK K hst HRb HPl HTm
      go_wp2_with fail
      go_roundw
      case rel => exact ⟨k + 1, f + 16, by have := HK.out.1; omega, by have := HK.out.1; omega, by go_num, ⟨_, _, HM9.out, HSn.out⟩⟩
      case measure => simp [intOf]; omega
    · have hni : ¬ (f : Int) < (L : Int) := by omega
      obtain ⟨B, A, HM, HSm, HVa⟩ := HC.out
      have HKe : Hid (k = (L + 15) / 16) := (by have := HK.out; omega : k = (L + 15) / 16)
      rw [HKe.out] at HVa
      have HM : Hid (MT w g h B R A wr) := HM
      have HSm : Hid (Sm A) := HSm
      have HVa : Hid (v5 A % P13n = pacc (sb s) L (keyR key) ((L + 15) / 16)) := HVa
      clear HC
      go_wp2_with fail
      refine (HF0.out _ _ _ _ HM.out.1).mono ?_
      rintro e w5 ⟨rfl, HB5, HG5⟩
      rw [HK32.out] at HB5
      have HM5 : Hid (MT w g h (fl (sb (key.extract 16 32)) (key.extract 16 32).size 0) R A w5) := HM.out.fill HB5 HG5
      have HRb : Hid (ReadC (key.extract 16 32) 0) := HRd.out _ 0 (by decide)
      obtain ⟨b, hb⟩ : ∃ b, bl (key.extract 16 32) 0 = b := ⟨_, rfl⟩
      have HLb : Hid (∀ j, j < 5 → b j < 67108864) := fun j _ => by rw [← hb]; exact bl_lt _ _ _
      unfold ReadC at HRb
      rw [hb] at HRb HEk
      generalize fl (sb (key.extract 16 32)) (key.extract 16 32).size 0 = B5 at *
      clear HM HB5 HG5 hb
      have HRs : Hid (∀ W, Calls Tryd.prog 44 #[L5 A] W fun e w' => e = .returned (L5 (rs A)) ∧ Ext W w') := fun W => rest_any A (fun j hj => by have := HSm.out.le j hj; omega) W
      have HPl : Hid (∀ W, Calls Tryd.prog 42 #[L5 (rs A), L5 b] W fun e w' => e = .returned (L5 fun j => rs A j + b j) ∧ Ext W w') := fun W => plus_any _ b (fun j hj => by have := rs_lt A j hj; have := HLb.out j hj; omega) W
      have HWr : Hid (∀ W, Calls Tryd.prog 43 #[L5 fun j => rs A j + b j] W fun e w' => e = .returned (.string MS) ∧ Ext W w') := fun W => by
        have h := write_any (fun j => rs A j + b j) (fun j hj => by have := rs_lt A j hj; have := HLb.out j hj; show rs A j + b j < _; omega) W
        rw [v5_add, rs_val HSm.out.val, HEk.out] at h
        have e : v5 A % 1361129467683753853853498429727072845819 = pacc (sb s) L (keyR key) ((L + 15) / 16) := HVa.out
        rw [e, ← HV.out] at h
        exact h
      have HRl := HM5.out.2.2.1
      go_wp2_with (first | (refine wpList_load_row rfl 77 _ rfl (h + 1) rfl 77 (lst .u64 (A) 5).toArray (0, 0) _ HRl Tryd.underlying77 rfl (by rw [Tryd.size77]; simp [lst_len]) ?_))
      refine (HRs.out _).mono ?_
      rintro e w6 ⟨rfl, HX6⟩
      have HM6 : Hid (MT w g h B5 R A w6) := HM5.out.ext HX6
      clear HX6 HM5 HRl
      generalize (fun j => rs A j + b j) = S at *
      go_wp2_with fail
      refine (HRb.out _ _ HM6.out.1).mono ?_
      rintro e w7 ⟨rfl, HX7⟩
      have HM7 : Hid (MT w g h B5 R A w7) := HM6.out.ext HX7
      clear HX7 HM6
      go_wp2_with fail
      refine (HPl.out _).mono ?_
      rintro e w8 ⟨rfl, HX8⟩
      have HM8 : Hid (MT w g h B5 R A w8) := HM7.out.ext HX8
      clear HX8 HM7
      go_wp2_with fail
      refine (HWr.out _).mono ?_
      rintro e w9 ⟨rfl, HX9⟩
      have HE9 := HM8.out.2.2.2.1.trans HX9
      clear HX9 HM8
      go_wp2_with fail
      refine bodyPost_ret (v := .tuple #[.string MS, .int .i64 0]) (by simp [results, Tryd.results23, go_sem]) rfl ⟨rfl, HE9⟩
end Go.Proofs.YtbcgipapbamgfaaDoor

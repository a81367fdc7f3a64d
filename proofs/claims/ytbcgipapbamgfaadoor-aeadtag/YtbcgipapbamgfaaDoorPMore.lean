/-
  poly.read, called.
  poly.write, called.
  poly.Clamp, called.
-/
import Derived.Test.YtbcgipapbamgfaaDoorPParts
import Derived.Test.YtbcgipapbamgfaaDoorPe
import Derived.Test.YtbcgipapbamgfaaDoorPNums
import Derived.Test.YtbcgipapbamgfaaDoorPd
import Derived.Laws.BitsAllLaws
namespace Go.Proofs.YtbcgipapbamgfaaDoor
open Go.RowKit
/-- Four bytes, the lowest first. -/
def w4 (B : Nat → Nat) (f : Nat) : Nat := B f + B (f + 1) * 256 + B (f + 2) * 65536 + B (f + 3) * 16777216
/-- Limb i of a block. -/
def lm (B : Nat → Nat) (i : Nat) : Nat := w4 B (26 * i / 8) / 2 ^ (26 * i % 8) % 67108864
theorem lm_val {B : Nat → Nat} (h : ∀ j, B j < 256) (h16 : B 16 < 4) : v5 (lm B) = leN B 17 := by
  have h3 := h 3; have h6 := h 6; have h9 := h 9; have h0 := h 0; have h1 := h 1; have h2 := h 2; have h4 := h 4; have h5 := h 5; have h7 := h 7; have h8 := h 8
  have h10 := h 10; have h11 := h 11; have h12 := h 12; have h13 := h 13; have h14 := h 14; have h15 := h 15
  have e0 : lm B 0 = B 0 + B 1 * 256 + B 2 * 65536 + (B 3 % 4) * 16777216 := by show (B 0 + B 1 * 256 + B 2 * 65536 + B 3 * 16777216) / 1 % 67108864 = _; omega
  have e1 : lm B 1 = B 3 / 4 + B 4 * 64 + B 5 * 16384 + (B 6 % 16) * 4194304 := by show (B 3 + B 4 * 256 + B 5 * 65536 + B 6 * 16777216) / 4 % 67108864 = _; omega
  have e2 : lm B 2 = B 6 / 16 + B 7 * 16 + B 8 * 4096 + (B 9 % 64) * 1048576 := by show (B 6 + B 7 * 256 + B 8 * 65536 + B 9 * 16777216) / 16 % 67108864 = _; omega
  have e3 : lm B 3 = B 9 / 64 + B 10 * 4 + B 11 * 1024 + B 12 * 262144 := by show (B 9 + B 10 * 256 + B 11 * 65536 + B 12 * 16777216) / 64 % 67108864 = _; omega
  have e4 : lm B 4 = B 13 + B 14 * 256 + B 15 * 65536 + B 16 * 16777216 := by show (B 13 + B 14 * 256 + B 15 * 65536 + B 16 * 16777216) / 1 % 67108864 = _; omega
  unfold v5
  rw [e0, e1, e2, e3, e4]
  simp only [leN, Nat.reduceMul, Nat.reducePow, Nat.mul_zero, Nat.pow_zero]
  omega
theorem lm_lt (B : Nat → Nat) (i : Nat) : lm B i < 67108864 := Nat.mod_lt _ (by decide)
/-- The limbs read, the rest 0. -/
def rp (B : Nat → Nat) (i j : Nat) : Nat := if j < i then lm B j else 0
theorem rp_step (B : Nat → Nat) (i : Nat) : put (rp B i) i (lm B i) = rp B (i + 1) := by
  funext j
  unfold put rp
  by_cases h : j = i
  · rw [if_pos h, if_pos (by omega), h]
  · rw [if_neg h]
    by_cases h2 : j < i
    · rw [if_pos h2, if_pos (by omega)]
    · rw [if_neg h2, if_neg (by omega)]
/-- What read holds: the block, the answer's block n, what is made behind it. -/
def RD (w wr : World) (m n : Nat) (B F : Nat → Nat) : Prop := RowH wr m 73 .u8 17 B ∧ RowH wr n 77 .u64 5 (fun _ => 0) ∧ RowH wr (n + 1) 77 .u64 5 F ∧ Ext w wr ∧ w.heap.size ≤ n ∧ m < n
theorem RD.ext {w wr w2 : World} {m n : Nat} {B F : Nat → Nat} (h : RD w wr m n B F) (hx : Ext wr w2) : RD w w2 m n B F :=
  ⟨h.1.ext hx, h.2.1.ext hx, h.2.2.1.ext hx, h.2.2.2.1.trans hx, h.2.2.2.2⟩
theorem RD.set {w wr : World} {m n : Nat} {B F : Nat → Nat} (h : RD w wr m n B F) (t v : Nat) : RD w (wr.setCell ⟨n + 1, t, none⟩ (.int .u64 (v : Int))) m n B (put F t v) := by
  obtain ⟨h1, h2, h3, h4, h5, h6⟩ := h
  exact ⟨RowH.other (by omega) h1 ⟨_, _, _, h3⟩, RowH.other (by omega) h2 ⟨_, _, _, h3⟩, h3.set t v, Ext.st (by omega) h4, h5, h6⟩
theorem RD.new (w : World) (m : Nat) (B : Nat → Nat) (h : RowH w m 73 .u8 17 B) : RD w ((w.alloc (.cells #[.int .u64 0, .int .u64 0, .int .u64 0, .int .u64 0, .int .u64 0] 77)).alloc (.cells #[.int .u64 0, .int .u64 0, .int .u64 0, .int .u64 0, .int .u64 0] 77)) m w.heap.size B (fun _ => 0) := by
  have h2 := RowH.new (w.alloc (.cells #[.int .u64 0, .int .u64 0, .int .u64 0, .int .u64 0, .int .u64 0] 77)) .u64 5 77
  rw [show (w.alloc (.cells #[.int .u64 0, .int .u64 0, .int .u64 0, .int .u64 0, .int .u64 0] 77)).heap.size = w.heap.size + 1 by simp] at h2
  have hx : Ext w ((w.alloc (.cells #[.int .u64 0, .int .u64 0, .int .u64 0, .int .u64 0, .int .u64 0] 77)).alloc (.cells #[.int .u64 0, .int .u64 0, .int .u64 0, .int .u64 0, .int .u64 0] 77)) := ((Ext.refl w).alloc _).alloc _
  exact ⟨h.ext hx, (RowH.new w .u64 5 77).ext ((Ext.refl _).alloc _), h2, hx, Nat.le_refl _, h.lt⟩
theorem or_num8 {x b k : Nat} (h : x < 2 ^ k) (hk : k ≤ 24) (hb : b < 256) : bits BinOp.or IntKind.u64 (x : Int) ((b * 2 ^ k : Nat) : Int) = ((x + b * 2 ^ k : Nat) : Int) := by
  have h1 : 2 ^ k ≤ 2 ^ 24 := Nat.pow_le_pow_right (by decide) hk
  have h2 : b * 2 ^ k ≤ 255 * 2 ^ 24 := Nat.mul_le_mul (by omega) h1
  rw [u64_or_nat _ _ (by omega) (by omega), Nat.or_comm, Nat.mul_comm b, ← Nat.two_pow_add_eq_or_of_lt h, Nat.add_comm]
theorem read_num {B : Nat → Nat} (hB : ∀ j, B j < 256) (i : Nat) (hi : i < 5) : ∃ t f e b0 b1 b2 b3 s1 s2 s3 v r z : Nat, IntKind.i64.wrap ((i : Int) * 26) = (t : Int) ∧ (t : Int).tdiv 8 = (f : Int) ∧ IntKind.i64.wrap (f : Int) = (f : Int) ∧ (t : Int).tmod 8 = (e : Int) ∧ IntKind.i64.wrap (e : Int) = (e : Int) ∧ e < 8 ∧ f ≤ 13 ∧
    B f = b0 ∧ B (f + 1) = b1 ∧ B (f + 2) = b2 ∧ B (f + 3) = b3 ∧ b0 < 256 ∧ b1 < 256 ∧ b2 < 256 ∧ b3 < 256 ∧ s1 = b0 + b1 * 256 ∧ s2 = s1 + b2 * 65536 ∧ s3 = s2 + b3 * 16777216 ∧ s3 = v ∧
    v / 2 ^ e = r ∧ r < 18446744073709551616 ∧ r % 67108864 = z ∧ z = lm B i := by
  have h0 := hB (26 * i / 8); have h1 := hB (26 * i / 8 + 1); have h2 := hB (26 * i / 8 + 2); have h3 := hB (26 * i / 8 + 3)
  refine ⟨26 * i, 26 * i / 8, 26 * i % 8, _, _, _, _, _, _, _, _, _, _, ?_, ?_, ?_, ?_, ?_, by omega, by omega, rfl, rfl, rfl, rfl, h0, h1, h2, h3, rfl, rfl, rfl, rfl, rfl, ?_, rfl, rfl⟩
  · rw [IntKind.wrap_i64]; omega
  · rw [Int.tdiv_eq_ediv_of_nonneg (by omega)]; omega
  · rw [IntKind.wrap_i64]; omega
  · rw [Int.tmod_eq_emod_of_nonneg (by omega)]; omega
  · rw [IntKind.wrap_i64]; omega
  · refine Nat.lt_of_le_of_lt (Nat.div_le_self _ _) ?_; omega
set_option maxHeartbeats 2000000 in
theorem read_any (B : Nat → Nat) (hB : ∀ j, B j < 256) (m : Nat) (w : World) (hR : RowH w m 73 .u8 17 B) :
    Calls Tryd.prog 40 #[.pointer (some ⟨m, 0, none⟩)] w fun e w' => e = .returned (L5 (lm B)) ∧ Ext w w' := by
  have HB : Hid (∀ j, B j < 256) := hB
  have H0 : Hid (RD w ((w.alloc (.cells #[.int .u64 0, .int .u64 0, .int .u64 0, .int .u64 0, .int .u64 0] 77)).alloc (.cells #[.int .u64 0, .int .u64 0, .int .u64 0, .int .u64 0, .int .u64 0] 77)) m w.heap.size B (rp B 0)) := RD.new w m B hR
  clear hB hR
  go_enter Tryd.func40, Tryd.ntmps40
  go_wp2_with fail
  generalize ((w.alloc (.cells #[.int .u64 0, .int .u64 0, .int .u64 0, .int .u64 0, .int .u64 0] 77)).alloc (.cells #[.int .u64 0, .int .u64 0, .int .u64 0, .int .u64 0, .int .u64 0] 77)) = W0 at *
  generalize w.heap.size = n at *
  go_loopw [7] (fun u7 wr => ∃ (i : Nat), i ≤ 5 ∧ u7 = .int .i64 i ∧ Hid (RD w wr m n B (rp B i))) (fun u7 _ => 5 - (intOf u7).toNat)
  case atStart => exact ⟨0, by omega, rfl, H0⟩
  case round =>
    clear H0
    obtain ⟨i, hi5, rfl, HC⟩ := hrel
    by_cases hil : i < 5
    · have hi1 : (i : Int) < 5 := by omega
      have hi0 : (0 : Int) ≤ (i : Int) := by omega
      obtain ⟨t, f, e, b0, b1, b2, b3, s1, s2, s3, v, r, z, m1, m2, m3, m4, m5, he, hf, g0, g1, g2, g3, l0, l1, l2, l3, es1, es2, es3, ev, er, lr, ez, ezz⟩ := read_num HB.out i hil
      have c0 := (HC.out.1.tab.2 f (by omega)).1
      have c1 := (HC.out.1.tab.2 (f + 1) (by omega)).1
      have c2 := (HC.out.1.tab.2 (f + 2) (by omega)).1
      have c3 := (HC.out.1.tab.2 (f + 3) (by omega)).1
      rw [g0] at c0
      rw [g1] at c1
      rw [g2] at c2
      rw [g3] at c3
      have o1 : bits BinOp.or IntKind.u64 (b0 : Int) ((b1 : Int) * 256) = (s1 : Int) := by rw [es1]; exact or_num8 (k := 8) l0 (by decide) l1
      have o2 : bits BinOp.or IntKind.u64 (s1 : Int) ((b2 : Int) * 65536) = (s2 : Int) := by rw [es2]; exact or_num8 (k := 16) (by omega) (by decide) l2
      have o3 : bits BinOp.or IntKind.u64 (s2 : Int) ((b3 : Int) * 16777216) = (s3 : Int) := by rw [es3]; exact or_num8 (k := 24) (by omega) (by decide) l3
      have HRr : Hid (∀ W, RD w W m n B (rp B i) → RD w (W.setCell ⟨n + 1, i, none⟩ (.int .u64 (z : Int))) m n B (rp B (i + 1))) := fun W h => by
        have := h.set i z
        rw [ezz, rp_step] at this
        rw [ezz]
        exact this
      clear ezz g0 g1 g2 g3 es1 es2 es3
      go_wp2_with fail
      go_quiet (fail)
      try simp only [o1, o2, o3]
      have HC1 : Hid (RD w (wr.drewN nq) m n B (rp B i)) := HC.out.ext ((Ext.refl _).drewN nq)
      clear HC c0 c1 c2 c3 o1 o2 o3
      generalize wr.drewN nq = W3 at *
      obtain ⟨c5, f5⟩ := HC1.out.2.2.1.tab.2 i hil
      have HC2 := HRr.out W3 HC1.out
      have HC2 : Hid (RD w (W3.setCell ⟨n + 1, i, none⟩ (.int .u64 (z : Int))) m n B (rp B (i + 1))) := HC2
      clear HC1 HRr
      have e0 : (0 : Int) ≤ (e : Int) := by omega
      have sh : (v : Int) / 2 ^ e = (r : Int) := by rw [← er, show (2 : Int) ^ e = ((2 ^ e : Nat) : Int) from (Int.natCast_pow 2 e).symm, ← Int.natCast_ediv]
      have an : bits BinOp.and IntKind.u64 (r : Int) 67108863 = (z : Int) := by rw [← ez]; exact and26 _ lr
      clear er ez lr
      go_wp2_with fail
      go_roundw
      case rel => exact ⟨i + 1, hil, by go_num, HC2⟩
      case measure => simp [intOf]; omega
    · have HI : Hid (i = 5) := (by omega : i = 5)
      have hni : ¬ (i : Int) < 5 := by omega
      rw [HI.out] at HC
      have HF : lst .u64 (rp B 5) 5 = lst .u64 (lm B) 5 := lst_congr (fun k hk => if_pos hk)
      have HRa := HC.out.2.2.1
      have HRz := HC.out.2.1
      have HE := Ext.row HC.out.2.2.2.1 (b := n) HC.out.2.2.2.2.1 (lst .u64 (lm B) 5).toArray
      have HRr := HRz.row (lm B)
      unfold RowH at HRa
      rw [HF] at HRa
      clear HF
      go_wp2_with (first | (refine wpList_load_row rfl 77 _ rfl (n + 1) rfl 77 (lst .u64 (lm B) 5).toArray (0, 0) _ HRa Tryd.underlying77 rfl (by rw [Tryd.size77]; simp [lst_len]) ?_) | (refine wpList_store_row rfl 77 _ _ rfl (n) (lst .u64 (lm B) 5).toArray rfl rfl 77 _ HRz (by rw [Tryd.size77]; simp [lst_len]) (by simp [lst_len]) (lst_one _ _ _) ?_))
      refine bodyPost_ret (v := L5 (lm B)) (results_cell_row Tryd.results40 _ _ n 77 _ (0, 0) _ rfl HRr Tryd.underlying77 rfl (by rw [Tryd.size77]; simp [lst_len])) rfl ⟨rfl, HE⟩
end Go.Proofs.YtbcgipapbamgfaaDoor
namespace Go.Proofs.YtbcgipapbamgfaaDoor
open Go.RowKit
theorem Tryd.size102 : (Tryd.prog.info? 102).map (·.size) = some 16 := by kernel_rfl
theorem or_low8 {x q k : Nat} (h : x < 2 ^ k) (hx : x < 256) (hq : q * 2 ^ k < 256) : bits BinOp.or IntKind.u8 (x : Int) ((q * 2 ^ k : Nat) : Int) = ((x + q * 2 ^ k : Nat) : Int) := by
  rw [u8_or_nat _ _ (by omega) (by omega), Nat.or_comm, Nat.mul_comm q, ← Nat.two_pow_add_eq_or_of_lt h, Nat.add_comm]
/-- Byte i of a number. -/
def nB (V i : Nat) : Nat := V / 2 ^ (8 * i) % 256
theorem write_num {c : Nat → Nat} (hc : ∀ j, j < 5 → c j < 67108864) (i : Nat) (hi : i < 16) : ∃ t a e x y b : Nat, IntKind.i64.wrap (8 * (i : Int)) = (t : Int) ∧ (t : Int).tdiv 26 = (a : Int) ∧ IntKind.i64.wrap (a : Int) = (a : Int) ∧ (t : Int).tmod 26 = (e : Int) ∧ IntKind.i64.wrap (e : Int) = (e : Int) ∧ e < 26 ∧ a < 5 ∧ c a = x ∧ (x : Int) / 2 ^ e = (y : Int) ∧ (y : Int) % 256 = (b : Int) ∧
    (¬ (18 : Int) < (e : Int) ∧ b = nB (v5 c) i ∨ (18 : Int) < (e : Int) ∧ ∃ x1 k y1 b2 : Nat, a + 1 < 5 ∧ IntKind.i64.wrap ((a : Int) + 1) = ((a + 1 : Nat) : Int) ∧ c (a + 1) = x1 ∧ IntKind.i64.wrap (26 - (e : Int)) = (k : Int) ∧ k < 8 ∧ IntKind.u64.wrap ((x1 : Int) * 2 ^ k) = (y1 : Int) ∧ (y1 : Int) % 256 = (b2 : Int) ∧ bits BinOp.or IntKind.u8 (b : Int) (b2 : Int) = ((nB (v5 c) i : Nat) : Int)) := by
  have h0 := hc 0 (by decide); have h1 := hc 1 (by decide); have h2 := hc 2 (by decide); have h3 := hc 3 (by decide); have h4 := hc 4 (by decide)
  refine ⟨8 * i, 8 * i / 26, 8 * i % 26, _, c (8 * i / 26) / 2 ^ (8 * i % 26), c (8 * i / 26) / 2 ^ (8 * i % 26) % 256, ?_, ?_, ?_, ?_, ?_, by omega, by omega, rfl, ?_, by omega, ?_⟩
  · rw [IntKind.wrap_i64]; omega
  · rw [Int.tdiv_eq_ediv_of_nonneg (by omega)]; omega
  · rw [IntKind.wrap_i64]; omega
  · rw [Int.tmod_eq_emod_of_nonneg (by omega)]; omega
  · rw [IntKind.wrap_i64]; omega
  · rw [show (2 : Int) ^ (8 * i % 26) = ((2 ^ (8 * i % 26) : Nat) : Int) from (Int.natCast_pow 2 _).symm, ← Int.natCast_ediv]
  obtain rfl | rfl | rfl | rfl | rfl | rfl | rfl | rfl | rfl | rfl | rfl | rfl | rfl | rfl | rfl | rfl : i = 0 ∨ i = 1 ∨ i = 2 ∨ i = 3 ∨ i = 4 ∨ i = 5 ∨ i = 6 ∨ i = 7 ∨ i = 8 ∨ i = 9 ∨ i = 10 ∨ i = 11 ∨ i = 12 ∨ i = 13 ∨ i = 14 ∨ i = 15 := by omega
  · exact Or.inl ⟨by decide, by show c 0 / 1 % 256 = v5 c / 1 % 256; unfold v5; omega⟩
  · exact Or.inl ⟨by decide, by show c 0 / 256 % 256 = v5 c / 256 % 256; unfold v5; omega⟩
  · exact Or.inl ⟨by decide, by show c 0 / 65536 % 256 = v5 c / 65536 % 256; unfold v5; omega⟩
  · refine Or.inr ⟨by decide, c 1, 2, c 1 * 4, c 1 * 4 % 256, by decide, by decide, rfl, by decide, by decide, ?_, by show ((c 1 * 4 : Nat) : Int) % 256 = ((c 1 * 4 % 256 : Nat) : Int); omega, ?_⟩
    · rw [IntKind.wrap_u64]; show ((c 1 : Int) * 4) % 18446744073709551616 = ((c 1 * 4 : Nat) : Int); omega
    · show bits BinOp.or IntKind.u8 ((c 0 / 16777216 % 256 : Nat) : Int) ((c 1 * 4 % 256 : Nat) : Int) = ((v5 c / 16777216 % 256 : Nat) : Int)
      rw [show c 1 * 4 % 256 = c 1 % 64 * 2 ^ 2 by omega, or_low8 (by omega) (by omega) (by omega)]
      have : c 0 / 16777216 % 256 + c 1 % 64 * 2 ^ 2 = v5 c / 16777216 % 256 := by unfold v5; omega
      rw [this]
  · exact Or.inl ⟨by decide, by show c 1 / 64 % 256 = v5 c / 4294967296 % 256; unfold v5; omega⟩
  · exact Or.inl ⟨by decide, by show c 1 / 16384 % 256 = v5 c / 1099511627776 % 256; unfold v5; omega⟩
  · refine Or.inr ⟨by decide, c 2, 4, c 2 * 16, c 2 * 16 % 256, by decide, by decide, rfl, by decide, by decide, ?_, by show ((c 2 * 16 : Nat) : Int) % 256 = ((c 2 * 16 % 256 : Nat) : Int); omega, ?_⟩
    · rw [IntKind.wrap_u64]; show ((c 2 : Int) * 16) % 18446744073709551616 = ((c 2 * 16 : Nat) : Int); omega
    · show bits BinOp.or IntKind.u8 ((c 1 / 4194304 % 256 : Nat) : Int) ((c 2 * 16 % 256 : Nat) : Int) = ((v5 c / 281474976710656 % 256 : Nat) : Int)
      rw [show c 2 * 16 % 256 = c 2 % 16 * 2 ^ 4 by omega, or_low8 (by omega) (by omega) (by omega)]
      have : c 1 / 4194304 % 256 + c 2 % 16 * 2 ^ 4 = v5 c / 281474976710656 % 256 := by unfold v5; omega
      rw [this]
  · exact Or.inl ⟨by decide, by show c 2 / 16 % 256 = v5 c / 72057594037927936 % 256; unfold v5; omega⟩
  · exact Or.inl ⟨by decide, by show c 2 / 4096 % 256 = v5 c / 18446744073709551616 % 256; unfold v5; omega⟩
  · refine Or.inr ⟨by decide, c 3, 6, c 3 * 64, c 3 * 64 % 256, by decide, by decide, rfl, by decide, by decide, ?_, by show ((c 3 * 64 : Nat) : Int) % 256 = ((c 3 * 64 % 256 : Nat) : Int); omega, ?_⟩
    · rw [IntKind.wrap_u64]; show ((c 3 : Int) * 64) % 18446744073709551616 = ((c 3 * 64 : Nat) : Int); omega
    · show bits BinOp.or IntKind.u8 ((c 2 / 1048576 % 256 : Nat) : Int) ((c 3 * 64 % 256 : Nat) : Int) = ((v5 c / 4722366482869645213696 % 256 : Nat) : Int)
      rw [show c 3 * 64 % 256 = c 3 % 4 * 2 ^ 6 by omega, or_low8 (by omega) (by omega) (by omega)]
      have : c 2 / 1048576 % 256 + c 3 % 4 * 2 ^ 6 = v5 c / 4722366482869645213696 % 256 := by unfold v5; omega
      rw [this]
  · exact Or.inl ⟨by decide, by show c 3 / 4 % 256 = v5 c / 1208925819614629174706176 % 256; unfold v5; omega⟩
  · exact Or.inl ⟨by decide, by show c 3 / 1024 % 256 = v5 c / 309485009821345068724781056 % 256; unfold v5; omega⟩
  · exact Or.inl ⟨by decide, by show c 3 / 262144 % 256 = v5 c / 79228162514264337593543950336 % 256; unfold v5; omega⟩
  · exact Or.inl ⟨by decide, by show c 4 / 1 % 256 = v5 c / 20282409603651670423947251286016 % 256; unfold v5; omega⟩
  · exact Or.inl ⟨by decide, by show c 4 / 256 % 256 = v5 c / 5192296858534827628530496329220096 % 256; unfold v5; omega⟩
  · exact Or.inl ⟨by decide, by show c 4 / 65536 % 256 = v5 c / 1329227995784915872903807060280344576 % 256; unfold v5; omega⟩
/-- What write holds: the number in block m, the bytes in block p. -/
def WS (w wr : World) (m p : Nat) (c F : Nat → Nat) : Prop := RowH wr m 77 .u64 5 c ∧ RowH wr p 102 .u8 16 F ∧ Ext w wr ∧ w.heap.size ≤ m ∧ m < p
theorem WS.drew {w wr : World} {m p : Nat} {c F : Nat → Nat} (h : WS w wr m p c F) : WS w wr.drew m p c F :=
  have hx : Ext wr wr.drew := (Ext.refl _).drew
  ⟨h.1.ext hx, h.2.1.ext hx, h.2.2.1.trans hx, h.2.2.2⟩
theorem WS.set {w wr : World} {m p : Nat} {c F : Nat → Nat} (h : WS w wr m p c F) (t v : Nat) : WS w (wr.setCell ⟨p, t, none⟩ (.int .u8 (v : Int))) m p c (put F t v) := by
  obtain ⟨h1, h2, h3, h4, h5⟩ := h
  exact ⟨RowH.other (by omega) h1 ⟨_, _, _, h2⟩, h2.set t v, Ext.st (by omega) h3, h4, h5⟩
/-- The bytes made, the rest 0. -/
def wp8 (V i j : Nat) : Nat := if j < i then nB V j else 0
theorem wp8_step (V i : Nat) : put (wp8 V i) i (nB V i) = wp8 V (i + 1) := by
  funext j
  unfold put wp8
  by_cases h : j = i
  · rw [if_pos h, if_pos (by omega), h]
  · rw [if_neg h]
    by_cases h2 : j < i
    · rw [if_pos h2, if_pos (by omega)]
    · rw [if_neg h2, if_neg (by omega)]
theorem wp8_twice (V i b : Nat) : put (put (wp8 V i) i b) i (nB V i) = wp8 V (i + 1) := by
  rw [← wp8_step]
  funext j
  unfold put
  split <;> rfl
theorem mkS_congrP {T S : Nat → Nat} {n : Nat} (h : ∀ j, j < n → T j = S j) : mkS T n = mkS S n := by
  unfold mkS
  congr 2
  exact List.map_congr_left fun i hi => by rw [h i (List.mem_range.1 hi)]
set_option maxHeartbeats 2000000 in
theorem write_any (n : Nat → Nat) (hn : ∀ j, j < 5 → n j < 9223372036854775808) (w : World) :
    Calls Tryd.prog 43 #[L5 n] w fun e w' => e = .returned (.string (mkS (nB (v5 n)) 16)) ∧ Ext w w' := by
  obtain ⟨q, hq⟩ : ∃ q, cr n 5 = q := ⟨_, rfl⟩
  have HCar : Hid (∀ W, Calls Tryd.prog 61 #[L5 n] W fun e w' => e = .returned (.tuple #[L5 (cl n 5), .int .u64 (q : Int)]) ∧ Ext W w') := fun W => by
    have := carry_any n hn W
    rw [hq] at this
    exact this
  have HLt : Hid (∀ j, j < 5 → cl n 5 j < 67108864) := cl_lt n
  have HVal : Hid (mkS (nB (v5 (cl n 5))) 16 = mkS (nB (v5 n)) 16) := mkS_congrP fun j hj => by
    rw [cl_mod]
    unfold nB
    have h1 : (2 : Nat) ^ 130 = 2 ^ (8 * j) * 2 ^ (130 - 8 * j) := by rw [← Nat.pow_add]; congr 1; omega
    rw [show (1361129467683753853853498429727072845824 : Nat) = 2 ^ 130 by decide, h1, Nat.mod_mul_right_div_self, Nat.mod_mod_of_dvd]
    exact Nat.pow_dvd_pow 2 (by omega : 8 ≤ 130 - 8 * j)
  rw [← HVal.out]
  have HR0 : RowH (w.alloc (.cells (lst .u64 n 5).toArray 77)) w.heap.size 77 .u64 5 n := by unfold RowH; rw [heap_alloc_new]
  have HE0 : Ext w (w.alloc (.cells (lst .u64 n 5).toArray 77)) := (Ext.refl w).alloc _
  generalize cl n 5 = c at *
  clear hq hn HVal
  go_enter Tryd.func43, Tryd.ntmps43
  go_wp2_with (first | (refine wpList_load_row rfl 77 _ rfl (w.heap.size) rfl 77 (lst .u64 (n) 5).toArray (0, 0) _ HR0 Tryd.underlying77 rfl (by rw [Tryd.size77]; simp [lst_len]) ?_))
  generalize w.alloc (.cells (lst .u64 n 5).toArray 77) = W0 at *
  generalize hgm : w.heap.size = m at *
  refine (HCar.out _).mono ?_
  rintro e w1 ⟨rfl, HX1⟩
  have HR1 := HR0.ext HX1
  have HE1 := HE0.trans HX1
  have HM : w.heap.size ≤ m := Nat.le_of_eq hgm
  have HR2 := HR1.row c
  have HE2 := Ext.row HE1 HM (lst .u64 c 5).toArray
  have H0 : Hid (WS w ((w1.setRow m (lst .u64 c 5).toArray).alloc (.cells #[.int .u8 0, .int .u8 0, .int .u8 0, .int .u8 0, .int .u8 0, .int .u8 0, .int .u8 0, .int .u8 0, .int .u8 0, .int .u8 0, .int .u8 0, .int .u8 0, .int .u8 0, .int .u8 0, .int .u8 0, .int .u8 0] 102)) m w1.heap.size c (wp8 (v5 c) 0)) := by
    have hz : (w1.setRow m (lst .u64 c 5).toArray).heap.size = w1.heap.size := by simp [World.setRow]
    have h := RowH.new (w1.setRow m (lst .u64 c 5).toArray) .u8 16 102
    rw [hz] at h
    exact ⟨HR2.ext ((Ext.refl _).alloc _), h, HE2.alloc _, HM, HR1.lt⟩
  clear HR0 HE0 HX1 HE1 HM HR2 HE2 HCar hgm
  go_wp2_with (first | (refine wpList_store_row rfl 77 _ _ rfl (m) (lst .u64 (c) 5).toArray rfl rfl 77 _ HR1 (by rw [Tryd.size77]; simp [lst_len]) (by simp [lst_len]) (lst_one _ _ _) ?_))
  clear HR1
  generalize (w1.setRow m (lst .u64 c 5).toArray).alloc (.cells #[.int .u8 0, .int .u8 0, .int .u8 0, .int .u8 0, .int .u8 0, .int .u8 0, .int .u8 0, .int .u8 0, .int .u8 0, .int .u8 0, .int .u8 0, .int .u8 0, .int .u8 0, .int .u8 0, .int .u8 0, .int .u8 0] 102) = W2 at *
  generalize w1.heap.size = p at *
  clear w1
  go_loopw [12] (fun u12 wr => ∃ (i : Nat), i ≤ 16 ∧ u12 = .int .i64 i ∧ Hid (WS w wr m p c (wp8 (v5 c) i))) (fun u12 _ => 16 - (intOf u12).toNat)
  case atStart => exact ⟨0, by omega, rfl, H0⟩
  case round =>
    clear H0
    obtain ⟨i, hi16, rfl, HC⟩ := hrel
    by_cases hil : i < 16
    · have hi1 : (i : Int) < 16 := by omega
      have hi0 : (0 : Int) ≤ (i : Int) := by omega
      obtain ⟨t, a, e, x, y, b, m1, m2, m3, m4, m5, he, ha, gx, m6, m7, hcase⟩ := write_num HLt.out i hil
      have c1 := (HC.out.1.tab.2 a ha).1
      rw [gx] at c1
      obtain ⟨c2, f2⟩ := HC.out.2.1.tab.2 i hil
      have HC1 : Hid (WS w (wr.setCell ⟨p, i, none⟩ (.int .u8 (b : Int))) m p c (put (wp8 (v5 c) i) i b)) := HC.out.set i b
      have a0 : (0 : Int) ≤ (a : Int) := by omega
      have a1 : (a : Int) < 5 := by omega
      have e0 : (0 : Int) ≤ (e : Int) := by omega
      clear HC gx
      rcases hcase with ⟨h18, hb⟩ | ⟨h18, x1, k, y1, b2, l1, n1, g1, n2, n3, n4, n5, n6⟩
      · have HC2 : Hid (WS w (wr.setCell ⟨p, i, none⟩ (.int .u8 (b : Int))) m p c (wp8 (v5 c) (i + 1))) := by
          have h := HC1.out
          rw [hb, wp8_step] at h
          rw [hb]
          exact h
        clear HC1 hb
        go_wp2_with fail
        go_roundw
        case rel => exact ⟨i + 1, hil, by go_num, HC2⟩
        case measure => simp [intOf]; omega
      · go_wp2_with fail
        clear c1 c2 f2
        generalize wr.setCell ⟨p, i, none⟩ (.int .u8 (b : Int)) = W3 at *
        have HC2 : Hid (WS w W3.drew m p c (put (wp8 (v5 c) i) i b)) := HC1.out.drew
        clear HC1
        refine wp_region_noPanic ?_
        refine wp_region_until (X := 13) (S := fun wx => wx = W3.drew) (by kernel_rfl) ?_
        generalize W3.drew = W4 at *
        have d1 := (HC2.out.1.tab.2 (a + 1) l1).1
        rw [g1] at d1
        obtain ⟨d2, f2⟩ := HC2.out.2.1.tab.2 i hil
        rw [put_same] at d2
        have HC3 : Hid (WS w (W4.setCell ⟨p, i, none⟩ (.int .u8 ((nB (v5 c) i : Nat) : Int))) m p c (wp8 (v5 c) (i + 1))) := by
          have h := HC2.out.set i (nB (v5 c) i)
          rw [wp8_twice] at h
          exact h
        generalize nB (v5 c) i = nb at *
        have a2 : (0 : Int) ≤ (a : Int) + 1 := by omega
        have a3 : (a : Int) + 1 < 5 := by omega
        have k0 : (0 : Int) ≤ (k : Int) := by omega
        clear HC2 g1
        refine until_take (i := 0) (v := ?v0) rfl (by kernel_rfl) (by kernel_rfl) (by kernel_rfl) (by kernel_rfl) (by kernel_rfl) (fun _ _ _ h => h) rfl ?hy0 rfl ?rest0
        case hy0 => (intro w hSw; subst hSw; go_simp; try with_reducible rfl)
        try simp only [Act.put, List.setIfInBounds_toArray, List.set_cons_zero, List.set_cons_succ]
        refine until_take (i := 1) (v := ?v1) rfl (by kernel_rfl) (by kernel_rfl) (by kernel_rfl) (by kernel_rfl) (by kernel_rfl) (fun _ _ _ h => h) rfl ?hy1 rfl ?rest1
        case hy1 => (intro w hSw; subst hSw; go_simp; try with_reducible rfl)
        try simp only [Act.put, List.setIfInBounds_toArray, List.set_cons_zero, List.set_cons_succ]
        refine until_take (i := 2) (v := ?v2) rfl (by kernel_rfl) (by kernel_rfl) (by kernel_rfl) (by kernel_rfl) (by kernel_rfl) (fun _ _ _ h => h) rfl ?hy2 rfl ?rest2
        case hy2 => (intro w hSw; subst hSw; go_simp; try with_reducible rfl)
        try simp only [Act.put, List.setIfInBounds_toArray, List.set_cons_zero, List.set_cons_succ]
        refine until_take (i := 3) (v := ?v3) rfl (by kernel_rfl) (by kernel_rfl) (by kernel_rfl) (by kernel_rfl) (by kernel_rfl) (fun _ _ _ h => h) rfl ?hy3 rfl ?rest3
        case hy3 => (intro w hSw; subst hSw; go_simp; try with_reducible rfl)
        try simp only [Act.put, List.setIfInBounds_toArray, List.set_cons_zero, List.set_cons_succ]
        refine until_take (i := 4) (v := ?v4) rfl (by kernel_rfl) (by kernel_rfl) (by kernel_rfl) (by kernel_rfl) (by kernel_rfl) (fun _ _ _ h => h) rfl ?hy4 rfl ?rest4
        case hy4 => (intro w hSw; subst hSw; go_simp; try with_reducible rfl)
        try simp only [Act.put, List.setIfInBounds_toArray, List.set_cons_zero, List.set_cons_succ]
        refine until_take (i := 5) (v := ?v5) rfl (by kernel_rfl) (by kernel_rfl) (by kernel_rfl) (by kernel_rfl) (by kernel_rfl) (fun _ _ _ h => h) rfl ?hy5 rfl ?rest5
        case hy5 => (intro w hSw; subst hSw; go_simp; try with_reducible rfl)
        try simp only [Act.put, List.setIfInBounds_toArray, List.set_cons_zero, List.set_cons_succ]
        refine until_take (i := 6) (v := ?v6) rfl (by kernel_rfl) (by kernel_rfl) (by kernel_rfl) (by kernel_rfl) (by kernel_rfl) (fun _ _ _ h => h) rfl ?hy6 rfl ?rest6
        case hy6 => (intro w hSw; subst hSw; go_simp; try with_reducible rfl)
        try simp only [Act.put, List.setIfInBounds_toArray, List.set_cons_zero, List.set_cons_succ]
        refine until_take (i := 7) (v := ?v7) rfl (by kernel_rfl) (by kernel_rfl) (by kernel_rfl) (by kernel_rfl) (by kernel_rfl) (fun _ _ _ h => h) rfl ?hy7 rfl ?rest7
        case hy7 => (intro w hSw; subst hSw; go_simp; try with_reducible rfl)
        try simp only [Act.put, List.setIfInBounds_toArray, List.set_cons_zero, List.set_cons_succ]
        refine until_take (i := 8) (v := ?v8) rfl (by kernel_rfl) (by kernel_rfl) (by kernel_rfl) (by kernel_rfl) (by kernel_rfl) (fun _ _ _ h => h) rfl ?hy8 rfl ?rest8
        case hy8 => (intro w hSw; subst hSw; go_simp; try with_reducible rfl)
        try simp only [Act.put, List.setIfInBounds_toArray, List.set_cons_zero, List.set_cons_succ]
        refine until_take (i := 9) (v := ?v9) rfl (by kernel_rfl) (by kernel_rfl) (by kernel_rfl) (by kernel_rfl) (by kernel_rfl) (fun _ _ _ h => h) rfl ?hy9 rfl ?rest9
        case hy9 => (intro w hSw; subst hSw; go_simp; try with_reducible rfl)
        try simp only [Act.put, List.setIfInBounds_toArray, List.set_cons_zero, List.set_cons_succ]
        refine until_take (i := 10) (v := ?v10) rfl (by kernel_rfl) (by kernel_rfl) (by kernel_rfl) (by kernel_rfl) (by kernel_rfl) (fun _ _ _ h => h) rfl ?hy10 rfl ?rest10
        case hy10 => (intro w hSw; subst hSw; go_simp; try with_reducible rfl)
        try simp only [Act.put, List.setIfInBounds_toArray, List.set_cons_zero, List.set_cons_succ]
        refine until_take (i := 11) (v := ?v11) rfl (by kernel_rfl) (by kernel_rfl) (by kernel_rfl) (by kernel_rfl) (by kernel_rfl) (fun _ _ _ h => h) rfl ?hy11 rfl ?rest11
        case hy11 => (intro w hSw; subst hSw; go_simp; try with_reducible rfl)
        try simp only [Act.put, List.setIfInBounds_toArray, List.set_cons_zero, List.set_cons_succ]
        refine until_take (i := 12) (v := ?v12) rfl (by kernel_rfl) (by kernel_rfl) (by kernel_rfl) (by kernel_rfl) (by kernel_rfl) (fun _ _ _ h => h) rfl ?hy12 rfl ?rest12
        case hy12 => (intro w hSw; subst hSw; go_simp; try with_reducible rfl)
        try simp only [Act.put, List.setIfInBounds_toArray, List.set_cons_zero, List.set_cons_succ]
        refine until_last (by kernel_rfl) (by kernel_rfl) rfl rfl (fun K hK => ?_)
        go_simp
        refine hK.out _ _ (NoPanic.normal ?_)
        clear hK K
        go_wp2_with fail
        go_roundw
        case rel => exact ⟨i + 1, hil, by go_num, by rw [n5, n6]; exact HC3⟩
        case measure => simp [intOf]; omega
    · have HI : Hid (i = 16) := (by omega : i = 16)
      have hni : ¬ (i : Int) < 16 := by omega
      rw [HI.out] at HC
      have HS := HC.out.2.1.tab.slice (c := 16) (by decide)
      rw [show lst .u8 (wp8 (v5 c) 16) 16 = lst .u8 (nB (v5 c)) 16 from lst_congr (fun k hk => if_pos hk)] at HS
      have hcv := run_lst_string Tryd.prog 5 31 9 Tryd.underlying31 Tryd.underlying5 Tryd.underlying9 wr (nB (v5 c)) 16 _ HS (by decide)
      go_wp2_with fail
      go_ret
      exact ⟨rfl, HC.out.2.2.1⟩
end Go.Proofs.YtbcgipapbamgfaaDoor
namespace Go.Proofs.YtbcgipapbamgfaaDoor
open Go.RowKit
/-- The bytes behind the first loop up to t. -/
def cA (T : Nat → Nat) (t j : Nat) : Nat := if j % 4 = 3 ∧ j < t then clB j (T j) else T j
/-- The bytes behind the second loop up to t. -/
def cB (T : Nat → Nat) (t j : Nat) : Nat := if j % 4 = 3 ∨ j % 4 = 0 ∧ j ≠ 0 ∧ j < t then clB j (T j) else T j
theorem cA_step (T : Nat → Nat) (i : Nat) (h : i % 4 = 3) : put (cA T i) i (clB i (T i)) = cA T (i + 4) := by
  funext j
  unfold put cA
  by_cases e : j = i
  · subst e; rw [if_pos rfl, if_pos ⟨h, by omega⟩]
  · rw [if_neg e]
    by_cases h2 : j % 4 = 3 ∧ j < i
    · rw [if_pos h2, if_pos ⟨h2.1, by omega⟩]
    · rw [if_neg h2, if_neg (by omega)]
theorem cB_step (T : Nat → Nat) (i : Nat) (h : i % 4 = 0) (h0 : i ≠ 0) : put (cB T i) i (clB i (T i)) = cB T (i + 4) := by
  funext j
  unfold put cB
  by_cases e : j = i
  · subst e; rw [if_pos rfl, if_pos (Or.inr ⟨h, h0, by omega⟩)]
  · rw [if_neg e]
    by_cases h2 : j % 4 = 3 ∨ j % 4 = 0 ∧ j ≠ 0 ∧ j < i
    · rw [if_pos h2, if_pos (by omega)]
    · rw [if_neg h2, if_neg (by omega)]
theorem cA_at (T : Nat → Nat) (i : Nat) : cA T i i = T i := if_neg (by omega)
theorem cB_at (T : Nat → Nat) (i : Nat) (h : i % 4 = 0) : cB T i i = T i := if_neg (by omega)
theorem cB_end (T : Nat → Nat) (j : Nat) (h : j < 16) : cB T 16 j = clP T 16 j := by
  unfold cB clP
  rw [if_pos h]
  split
  · rfl
  · exact (clB_else (by omega) (by omega) _).symm
theorem pclamp_bad (s : ByteArray) (h : s.size ≠ 16) (w : World) :
    Calls Tryd.prog 38 #[.string s] w fun e w' => e = .returned (.tuple #[.string ⟨#[]⟩, .int .i64 2]) ∧ Ext w w' := by
  have h1 : ¬ (s.size : Int) = 16 := by omega
  go_enter Tryd.func38, Tryd.ntmps38
  go_wp2
  refine bodyPost_ret (v := .tuple #[.string ⟨#[]⟩, .int .i64 2]) (by simp [results, Tryd.results38, go_sem]) rfl ⟨rfl, Ext.refl _⟩
/-- What Clamp holds. -/
def CL (w wr : World) (p : Nat) (F : Nat → Nat) : Prop := RowH wr p 102 .u8 16 F ∧ Ext w wr ∧ w.heap.size ≤ p
theorem CL.set {w wr : World} {p : Nat} {F : Nat → Nat} (h : CL w wr p F) (t v : Nat) : CL w (wr.setCell ⟨p, t, none⟩ (.int .u8 (v : Int))) p (put F t v) :=
  ⟨h.1.set t v, Ext.st h.2.2 h.2.1, h.2.2⟩
theorem CL.congr {w wr : World} {p : Nat} {F G : Nat → Nat} (h : CL w wr p F) (e : ∀ j, j < 16 → F j = G j) : CL w wr p G :=
  ⟨by have := h.1; unfold RowH at this ⊢; rw [lst_congr e] at this; exact this, h.2⟩
set_option maxHeartbeats 1000000 in
theorem pclamp_any (s : ByteArray) (hs : s.size = 16) (w : World) :
    Calls Tryd.prog 38 #[.string s] w fun e w' => e = .returned (.tuple #[.string (clS s), .int .i64 0]) ∧ Ext w w' := by
  have h1 : (s.size : Int) = 16 := by omega
  have HR0 := RowH.new w .u8 16 102
  have hcp := run_copy_part (P := Tryd.prog) (w.alloc (.cells #[.int .u8 0, .int .u8 0, .int .u8 0, .int .u8 0, .int .u8 0, .int .u8 0, .int .u8 0, .int .u8 0, .int .u8 0, .int .u8 0, .int .u8 0, .int .u8 0, .int .u8 0, .int .u8 0, .int .u8 0, .int .u8 0] 102)) 31 9 3 5 102 w.heap.size 16 16 16 s (fun _ => 0) (by decide) Tryd.underlying31 Tryd.size5 HR0
  have H0 : Hid (CL w ((w.alloc (.cells #[.int .u8 0, .int .u8 0, .int .u8 0, .int .u8 0, .int .u8 0, .int .u8 0, .int .u8 0, .int .u8 0, .int .u8 0, .int .u8 0, .int .u8 0, .int .u8 0, .int .u8 0, .int .u8 0, .int .u8 0, .int .u8 0] 102)).setRow w.heap.size (lst .u8 (fun j => if j < min s.size 16 then sb s j else (fun _ => 0) j) 16).toArray) w.heap.size (cA (sb s) 3)) :=
    CL.congr ⟨HR0.row _, ((Ext.refl w).alloc _).row (Nat.le_refl _) _, Nat.le_refl _⟩ (fun j hj => by show (if _ then _ else _) = _; rw [if_pos (by omega)]; exact (if_neg (by omega)).symm)
  have HS : Hid (clS s = mkS (clP (sb s) 16) 16) := rfl
  have HL : Hid (∀ j, sb s j < 256) := sb_lt s
  obtain ⟨sT, hT⟩ : ∃ T, Hid (sb s = T) := ⟨_, rfl⟩
  rw [hT.out] at hcp H0 HS HL
  generalize clS s = R at *
  clear HR0
  generalize (w.alloc (.cells #[.int .u8 0, .int .u8 0, .int .u8 0, .int .u8 0, .int .u8 0, .int .u8 0, .int .u8 0, .int .u8 0, .int .u8 0, .int .u8 0, .int .u8 0, .int .u8 0, .int .u8 0, .int .u8 0, .int .u8 0, .int .u8 0] 102)).setRow w.heap.size (lst .u8 (fun j => if j < min s.size 16 then sT j else (fun _ => 0) j) 16).toArray = W0 at *
  go_enter Tryd.func38, Tryd.ntmps38
  go_wp2_with fail
  clear hcp
  generalize w.heap.size = p at *
  go_loopw [5] (fun u5 wr => ∃ (i : Nat), i ≤ 19 ∧ i % 4 = 3 ∧ u5 = .int .i64 i ∧ Hid (CL w wr p (cA sT i))) (fun u5 _ => 20 - (intOf u5).toNat)
  case atStart => exact ⟨3, by omega, by omega, rfl, H0⟩
  case round =>
    clear H0
    obtain ⟨i, hi19, hi4, rfl, HC⟩ := hrel
    by_cases hil : i < 16
    · have hi1 : (i : Int) < 16 := by omega
      have hi0 : (0 : Int) ≤ (i : Int) := by omega
      obtain ⟨c1, f1⟩ := HC.out.1.tab.2 i hil
      rw [cA_at] at c1
      have ha := clB_four (i := i) (by omega) (sT i) (HL.out i)
      have HC1 : Hid (CL w (wr.setCell ⟨p, i, none⟩ (.int .u8 ((clB i (sT i) : Nat) : Int))) p (cA sT (i + 4))) := by
        have h := HC.out.set i (clB i (sT i))
        rw [cA_step sT i hi4] at h
        exact h
      clear HC
      generalize clB i (sT i) = v at *
      generalize sT i = x at *
      have HI4 : Hid (i % 4 = 3) := hi4
      clear hi4
      go_wp2_with fail
      go_roundw
      case rel => exact ⟨i + 4, by omega, by have := HI4.out; omega, by go_num, HC1⟩
      case measure => simp [intOf]; omega
    · have hni : ¬ (i : Int) < 16 := by omega
      have HC1 : Hid (CL w wr p (cB sT 4)) := HC.out.congr fun j hj => by
        unfold cA cB
        by_cases h : j % 4 = 3
        · rw [if_pos ⟨h, by omega⟩, if_pos (Or.inl h)]
        · rw [if_neg (by omega), if_neg (by omega)]
      clear HC
      go_wp2_with fail
      go_loopw [6] (fun u6 wr => ∃ (i : Nat), i ≤ 16 ∧ i % 4 = 0 ∧ i ≠ 0 ∧ u6 = .int .i64 i ∧ Hid (CL w wr p (cB sT i))) (fun u6 _ => 20 - (intOf u6).toNat)
      case atStart => exact ⟨4, by omega, by omega, by omega, rfl, HC1⟩
      case round =>
        clear HC1
        rename_i i0 _ _ _ _
        obtain ⟨i, hi19, hi4, hin, rfl, HC⟩ := hrel
        by_cases hil : i < 16
        · have hi1 : (i : Int) < 16 := by omega
          have hi0 : (0 : Int) ≤ (i : Int) := by omega
          obtain ⟨c1, f1⟩ := HC.out.1.tab.2 i hil
          rw [cB_at sT i hi4] at c1
          have ha := clB_three (i := i) (by omega) (sT i) (HL.out i)
          have HC1 : Hid (CL w (wr.setCell ⟨p, i, none⟩ (.int .u8 ((clB i (sT i) : Nat) : Int))) p (cB sT (i + 4))) := by
            have h := HC.out.set i (clB i (sT i))
            rw [cB_step sT i hi4 hin] at h
            exact h
          clear HC
          generalize clB i (sT i) = v at *
          generalize sT i = x at *
          have HI4 : Hid (i % 4 = 0) := hi4
          clear hi4 hin
          go_wp2_with fail
          go_roundw
          case rel => exact ⟨i + 4, by have := HI4.out; omega, by have := HI4.out; omega, by omega, by go_num, HC1⟩
          case measure => simp [intOf]; omega
        · have HI : Hid (i = 16) := (by omega : i = 16)
          have hni : ¬ (i : Int) < 16 := by omega
          rw [HI.out] at HC
          have HS2 := HC.out.1.tab.slice (c := 16) (by decide)
          rw [show lst .u8 (cB sT 16) 16 = lst .u8 (clP sT 16) 16 from lst_congr (fun k hk => cB_end sT k hk)] at HS2
          have hcv := run_lst_string Tryd.prog 5 31 9 Tryd.underlying31 Tryd.underlying5 Tryd.underlying9 wr (clP sT 16) 16 _ HS2 (by decide)
          rw [← HS.out] at hcv
          go_wp2_with fail
          refine bodyPost_ret (v := .tuple #[.string R, .int .i64 0]) (by simp [results, Tryd.results38, go_sem]) rfl ⟨rfl, HC.out.2.1⟩
end Go.Proofs.YtbcgipapbamgfaaDoor

/-
  poly.read, called.
-/
import Derived.Test.YtgpcnmdaplkpoaaPa
import Derived.Test.YtgpcnmdaplkpoaaPe
import Derived.Test.YtgpcnmdaplkpoaaMacMath
namespace Go.Proofs.Ytgpcnmdaplkpoaa
open Go.RowKit
/-- Four bytes, the lowest first. -/
def w4 (B : Nat → Nat) (f : Nat) : Nat := B f + B (f + 1) * 256 + B (f + 2) * 65536 + B (f + 3) * 16777216
/-- Limb i of a block. -/
def lm (B : Nat → Nat) (i : Nat) : Nat := w4 B (26 * i / 8) / 2 ^ (26 * i % 8) % 67108864
theorem lm_val {B : Nat → Nat} (h : ∀ j, B j < 256) (h16 : B 16 < 4) : v5 (lm B) = leN B 17 := by
  have h3 := h 3; have h6 := h 6; have h9 := h 9; have h0 := h 0; have h1 := h 1; have h2 := h 2; have h4 := h 4; have h5 := h 5; have h7 := h 7; have h8 := h 8
  have h10 := h 10; have h11 := h 11; have h12 := h 12; have h13 := h 13; have h14 := h 14; have h15 := h 15
  have e0 : lm B 0 = B 0 + B 1 * 256 + B 2 * 65536 + (B 3 % 4) * 16777216 := by show (B 0 + B 1 * 256 + B 2 * 65536 + B 3 * 16777216) / 1 % 67108864 = _; omega
  have e1 : lm B 1 = B 3 / 4 + B 4 * 64 + B 5 * 16384 + (B 6 % 16) * 4194304 := by show (B 3 + B 4 * 256 + B 5 * 65536 + B 6 * 16777216) / 4 % 67108864 = _; omega
  have e2 : lm B 2 = B 6 / 16 + B 7 * 16 + B 8 * 4096 + (B 9 % 64) * 1048576 := by show (B 6 + B 7 * 256 + B 8 * 65536 + B 9 * 16777216) / 16 % 67108864 = _; omega
  have e3 : lm B 3 = B 9 / 64 + B 10 * 4 + B 11 * 1024 + B 12 * 262144 := by show (B 9 + B 10 * 256 + B 11 * 65536 + B 12 * 16777216) / 64 % 67108864 = _; omega
  have e4 : lm B 4 = B 13 + B 14 * 256 + B 15 * 65536 + B 16 * 16777216 := by show (B 13 + B 14 * 256 + B 15 * 65536 + B 16 * 16777216) / 1 % 67108864 = _; omega
  unfold v5
  rw [e0, e1, e2, e3, e4]
  simp only [leN, Nat.reduceMul, Nat.reducePow, Nat.mul_zero, Nat.pow_zero]
  omega
theorem lm_lt (B : Nat → Nat) (i : Nat) : lm B i < 67108864 := Nat.mod_lt _ (by decide)
/-- The limbs read, the rest 0. -/
def rp (B : Nat → Nat) (i j : Nat) : Nat := if j < i then lm B j else 0
theorem rp_step (B : Nat → Nat) (i : Nat) : put (rp B i) i (lm B i) = rp B (i + 1) := by
  funext j
  unfold put rp
  by_cases h : j = i
  · rw [if_pos h, if_pos (by omega), h]
  · rw [if_neg h]
    by_cases h2 : j < i
    · rw [if_pos h2, if_pos (by omega)]
    · rw [if_neg h2, if_neg (by omega)]
/-- What read holds: the block, the answer's block n, what is made behind it. -/
def RD (w wr : World) (m n : Nat) (B F : Nat → Nat) : Prop := RowH wr m 37 .u8 17 B ∧ RowH wr n 42 .u64 5 (fun _ => 0) ∧ RowH wr (n + 1) 42 .u64 5 F ∧ Ext w wr ∧ w.heap.size ≤ n ∧ m < n
theorem RD.ext {w wr w2 : World} {m n : Nat} {B F : Nat → Nat} (h : RD w wr m n B F) (hx : Ext wr w2) : RD w w2 m n B F :=
  ⟨h.1.ext hx, h.2.1.ext hx, h.2.2.1.ext hx, h.2.2.2.1.trans hx, h.2.2.2.2⟩
theorem RD.set {w wr : World} {m n : Nat} {B F : Nat → Nat} (h : RD w wr m n B F) (t v : Nat) : RD w (wr.setCell ⟨n + 1, t, none⟩ (.int .u64 (v : Int))) m n B (put F t v) := by
  obtain ⟨h1, h2, h3, h4, h5, h6⟩ := h
  exact ⟨RowH.other (by omega) h1 ⟨_, _, _, h3⟩, RowH.other (by omega) h2 ⟨_, _, _, h3⟩, h3.set t v, Ext.st (by omega) h4, h5, h6⟩
theorem RD.new (w : World) (m : Nat) (B : Nat → Nat) (h : RowH w m 37 .u8 17 B) : RD w ((w.alloc (.cells #[.int .u64 0, .int .u64 0, .int .u64 0, .int .u64 0, .int .u64 0] 42)).alloc (.cells #[.int .u64 0, .int .u64 0, .int .u64 0, .int .u64 0, .int .u64 0] 42)) m w.heap.size B (fun _ => 0) := by
  have h2 := RowH.new (w.alloc (.cells #[.int .u64 0, .int .u64 0, .int .u64 0, .int .u64 0, .int .u64 0] 42)) .u64 5 42
  rw [show (w.alloc (.cells #[.int .u64 0, .int .u64 0, .int .u64 0, .int .u64 0, .int .u64 0] 42)).heap.size = w.heap.size + 1 by simp] at h2
  have hx : Ext w ((w.alloc (.cells #[.int .u64 0, .int .u64 0, .int .u64 0, .int .u64 0, .int .u64 0] 42)).alloc (.cells #[.int .u64 0, .int .u64 0, .int .u64 0, .int .u64 0, .int .u64 0] 42)) := ((Ext.refl w).alloc _).alloc _
  exact ⟨h.ext hx, (RowH.new w .u64 5 42).ext ((Ext.refl _).alloc _), h2, hx, Nat.le_refl _, h.lt⟩
theorem or_num8 {x b k : Nat} (h : x < 2 ^ k) (hk : k ≤ 24) (hb : b < 256) : bits BinOp.or IntKind.u64 (x : Int) ((b * 2 ^ k : Nat) : Int) = ((x + b * 2 ^ k : Nat) : Int) := by
  have h1 : 2 ^ k ≤ 2 ^ 24 := Nat.pow_le_pow_right (by decide) hk
  have h2 : b * 2 ^ k ≤ 255 * 2 ^ 24 := Nat.mul_le_mul (by omega) h1
  rw [u64_or_nat _ _ (by omega) (by omega), Nat.or_comm, Nat.mul_comm b, ← Nat.two_pow_add_eq_or_of_lt h, Nat.add_comm]
theorem read_num {B : Nat → Nat} (hB : ∀ j, B j < 256) (i : Nat) (hi : i < 5) : ∃ t f e b0 b1 b2 b3 s1 s2 s3 v r z : Nat, IntKind.i64.wrap ((i : Int) * 26) = (t : Int) ∧ (t : Int).tdiv 8 = (f : Int) ∧ IntKind.i64.wrap (f : Int) = (f : Int) ∧ (t : Int).tmod 8 = (e : Int) ∧ IntKind.i64.wrap (e : Int) = (e : Int) ∧ e < 8 ∧ f ≤ 13 ∧
    B f = b0 ∧ B (f + 1) = b1 ∧ B (f + 2) = b2 ∧ B (f + 3) = b3 ∧ b0 < 256 ∧ b1 < 256 ∧ b2 < 256 ∧ b3 < 256 ∧ s1 = b0 + b1 * 256 ∧ s2 = s1 + b2 * 65536 ∧ s3 = s2 + b3 * 16777216 ∧ s3 = v ∧
    v / 2 ^ e = r ∧ r < 18446744073709551616 ∧ r % 67108864 = z ∧ z = lm B i := by
  have h0 := hB (26 * i / 8); have h1 := hB (26 * i / 8 + 1); have h2 := hB (26 * i / 8 + 2); have h3 := hB (26 * i / 8 + 3)
  refine ⟨26 * i, 26 * i / 8, 26 * i % 8, _, _, _, _, _, _, _, _, _, _, ?_, ?_, ?_, ?_, ?_, by omega, by omega, rfl, rfl, rfl, rfl, h0, h1, h2, h3, rfl, rfl, rfl, rfl, rfl, ?_, rfl, rfl⟩
  · rw [IntKind.wrap_i64]; omega
  · rw [Int.tdiv_eq_ediv_of_nonneg (by omega)]; omega
  · rw [IntKind.wrap_i64]; omega
  · rw [Int.tmod_eq_emod_of_nonneg (by omega)]; omega
  · rw [IntKind.wrap_i64]; omega
  · refine Nat.lt_of_le_of_lt (Nat.div_le_self _ _) ?_; omega
set_option maxHeartbeats 2000000 in
theorem read_any (B : Nat → Nat) (hB : ∀ j, B j < 256) (m : Nat) (w : World) (hR : RowH w m 37 .u8 17 B) :
    Calls Try.prog 14 #[.pointer (some ⟨m, 0, none⟩)] w fun e w' => e = .returned (L5 (lm B)) ∧ Ext w w' := by
  have HB : Hid (∀ j, B j < 256) := hB
  have H0 : Hid (RD w ((w.alloc (.cells #[.int .u64 0, .int .u64 0, .int .u64 0, .int .u64 0, .int .u64 0] 42)).alloc (.cells #[.int .u64 0, .int .u64 0, .int .u64 0, .int .u64 0, .int .u64 0] 42)) m w.heap.size B (rp B 0)) := RD.new w m B hR
  clear hB hR
  go_enter Try.func14, Try.ntmps14
  go_wp2_with fail
  generalize ((w.alloc (.cells #[.int .u64 0, .int .u64 0, .int .u64 0, .int .u64 0, .int .u64 0] 42)).alloc (.cells #[.int .u64 0, .int .u64 0, .int .u64 0, .int .u64 0, .int .u64 0] 42)) = W0 at *
  generalize w.heap.size = n at *
  go_loopw [7] (fun u7 wr => ∃ (i : Nat), i ≤ 5 ∧ u7 = .int .i64 i ∧ Hid (RD w wr m n B (rp B i))) (fun u7 _ => 5 - (intOf u7).toNat)
  case atStart => exact ⟨0, by omega, rfl, H0⟩
  case round =>
    clear H0
    obtain ⟨i, hi5, rfl, HC⟩ := hrel
    by_cases hil : i < 5
    · have hi1 : (i : Int) < 5 := by omega
      have hi0 : (0 : Int) ≤ (i : Int) := by omega
      obtain ⟨t, f, e, b0, b1, b2, b3, s1, s2, s3, v, r, z, m1, m2, m3, m4, m5, he, hf, g0, g1, g2, g3, l0, l1, l2, l3, es1, es2, es3, ev, er, lr, ez, ezz⟩ := read_num HB.out i hil
      have c0 := (HC.out.1.tab.2 f (by omega)).1
      have c1 := (HC.out.1.tab.2 (f + 1) (by omega)).1
      have c2 := (HC.out.1.tab.2 (f + 2) (by omega)).1
      have c3 := (HC.out.1.tab.2 (f + 3) (by omega)).1
      rw [g0] at c0
      rw [g1] at c1
      rw [g2] at c2
      rw [g3] at c3
      have o1 : bits BinOp.or IntKind.u64 (b0 : Int) ((b1 : Int) * 256) = (s1 : Int) := by rw [es1]; exact or_num8 (k := 8) l0 (by decide) l1
      have o2 : bits BinOp.or IntKind.u64 (s1 : Int) ((b2 : Int) * 65536) = (s2 : Int) := by rw [es2]; exact or_num8 (k := 16) (by omega) (by decide) l2
      have o3 : bits BinOp.or IntKind.u64 (s2 : Int) ((b3 : Int) * 16777216) = (s3 : Int) := by rw [es3]; exact or_num8 (k := 24) (by omega) (by decide) l3
      have HRr : Hid (∀ W, RD w W m n B (rp B i) → RD w (W.setCell ⟨n + 1, i, none⟩ (.int .u64 (z : Int))) m n B (rp B (i + 1))) := fun W h => by
        have := h.set i z
        rw [ezz, rp_step] at this
        rw [ezz]
        exact this
      clear ezz g0 g1 g2 g3 es1 es2 es3
      go_wp2_with fail
      go_quiet (fail)
      try simp only [o1, o2, o3]
      have HC1 : Hid (RD w (wr.drewN nq) m n B (rp B i)) := HC.out.ext ((Ext.refl _).drewN nq)
      clear HC c0 c1 c2 c3 o1 o2 o3
      generalize wr.drewN nq = W3 at *
      obtain ⟨c5, f5⟩ := HC1.out.2.2.1.tab.2 i hil
      have HC2 := HRr.out W3 HC1.out
      have HC2 : Hid (RD w (W3.setCell ⟨n + 1, i, none⟩ (.int .u64 (z : Int))) m n B (rp B (i + 1))) := HC2
      clear HC1 HRr
      have e0 : (0 : Int) ≤ (e : Int) := by omega
      have sh : (v : Int) / 2 ^ e = (r : Int) := by rw [← er, show (2 : Int) ^ e = ((2 ^ e : Nat) : Int) from (Int.natCast_pow 2 e).symm, ← Int.natCast_ediv]
      have an : bits BinOp.and IntKind.u64 (r : Int) 67108863 = (z : Int) := by rw [← ez]; exact and26 _ lr
      clear er ez lr
      go_wp2_with fail
      go_roundw
      case rel => exact ⟨i + 1, hil, by go_num, HC2⟩
      case measure => simp [intOf]; omega
    · have HI : Hid (i = 5) := (by omega : i = 5)
      have hni : ¬ (i : Int) < 5 := by omega
      rw [HI.out] at HC
      have HF : lst .u64 (rp B 5) 5 = lst .u64 (lm B) 5 := lst_congr (fun k hk => if_pos hk)
      have HRa := HC.out.2.2.1
      have HRz := HC.out.2.1
      have HE := Ext.row HC.out.2.2.2.1 (b := n) HC.out.2.2.2.2.1 (lst .u64 (lm B) 5).toArray
      have HRr := HRz.row (lm B)
      unfold RowH at HRa
      rw [HF] at HRa
      clear HF
      go_wp2_with (first | (refine wpList_load_row rfl 42 _ rfl (n + 1) rfl 42 (lst .u64 (lm B) 5).toArray (0, 0) _ HRa Try.underlying42 rfl (by rw [Try.size42]; simp [lst_len]) ?_) | (refine wpList_store_row rfl 42 _ _ rfl (n) (lst .u64 (lm B) 5).toArray rfl rfl 42 _ HRz (by rw [Try.size42]; simp [lst_len]) (by simp [lst_len]) (lst_one _ _ _) ?_))
      refine bodyPost_ret (v := L5 (lm B)) (results_cell_row Try.results14 _ _ n 42 _ (0, 0) _ rfl HRr Try.underlying42 rfl (by rw [Try.size42]; simp [lst_len])) rfl ⟨rfl, HE⟩
end Go.Proofs.Ytgpcnmdaplkpoaa

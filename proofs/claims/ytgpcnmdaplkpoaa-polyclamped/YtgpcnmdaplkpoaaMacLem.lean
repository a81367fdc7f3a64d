/-
  What the walk of the document's Mac stands on: its calls of number, one round's numbers, one byte's.
-/
import Derived.Test.YtgpcnmdaplkpoaaMacMath
import Derived.Test.YtgpcnmdaplkpoaaRefPMul
namespace Go.Proofs.Ytgpcnmdaplkpoaa
open Go.RowKit
/-- A call that hands out four words of the number N. -/
abbrev NumCall (f : Nat) (args : Array Value) (N : Nat) (W : World) : Prop :=
  Calls Try.prog f args W fun e w' => ∃ b0 b1 b2 b3 : Int, e = .returned (.agg #[.int .u64 b0, .int .u64 b1, .int .u64 b2, .int .u64 b3]) ∧ Hid (Lim4 b0 b1 b2 b3 ∧ val b0 b1 b2 b3 = ((N : Nat) : Int)) ∧ Ext W w'
theorem num_call (t : ByteArray) (n N : Nat) (hz : t.size = n) (hn : n ≤ 32) (hN : leN (sb t) n = N) (W : World) : NumCall 19 #[.string t] N W := by
  unfold NumCall
  refine (refnumber_any t (by omega) W).mono ?_
  rintro e w' ⟨rfl, hx⟩
  refine ⟨_, _, _, _, rfl, ⟨nwI_lim (sb_lt _) _, ?_⟩, hx⟩
  rw [nwI_val _ (by omega), hz, hN]
theorem blk_call (s : ByteArray) (q L P E : Nat) (HL : s.size = L) (hq : 16 * q < L) (eP : P = 16 * q) (eE : E = P + blkM L q) (W : World) : NumCall 19 #[.string (s.extract P E ++ ⟨#[1]⟩)] (blkN (sb s) L q) W := by
  subst HL eP eE
  have hm : blkM s.size q ≤ 16 := Nat.min_le_left _ _
  have hm2 : 16 * q + blkM s.size q ≤ s.size := by unfold blkM; omega
  refine num_call _ (blkM s.size q + 1) _ ?_ (by omega) ?_ W
  · rw [ByteArray.size_append, size_ext hm2]
    show 16 * q + blkM s.size q - 16 * q + 1 = _
    omega
  · exact blk_num s q hq ⟨#[1]⟩ (by decide)
theorem key_call (key : ByteArray) (hk : key.size = 32) (W : World) : NumCall 19 #[.string (clS (key.extract 0 16))] (keyR key) W :=
  num_call _ 16 _ (clS_size _) (by decide) (clS_num key hk) W
theorem end_call (key : ByteArray) (hk : key.size = 32) (W : World) : NumCall 19 #[.string (key.extract 16 key.size)] (keyA key) W := by
  refine num_call _ 16 _ (by rw [size_ext (Nat.le_refl _)]; omega) (by decide) ?_ W
  unfold keyA
  refine leN_congr 16 fun j hj => ?_
  exact sb_ext j (by omega) (Nat.le_refl _)
theorem P13_nat : P13 = ((P13n : Nat) : Int) := rfl
theorem mac_step {a0 a1 a2 a3 b0 b1 b2 b3 d0 d1 d2 d3 r0 r1 r2 r3 m0 m1 m2 m3 : Int} {A B R : Nat} (ha : val a0 a1 a2 a3 = ((A : Nat) : Int)) (hb : val b0 b1 b2 b3 = ((B : Nat) : Int)) (hr : val r0 r1 r2 r3 = ((R : Nat) : Int)) (h1 : PMod (val a0 a1 a2 a3 + val b0 b1 b2 b3) d0 d1 d2 d3) (h2 : PMod (val d0 d1 d2 d3 * val r0 r1 r2 r3) m0 m1 m2 m3) :
    Lim4 m0 m1 m2 m3 ∧ val m0 m1 m2 m3 = (((A + B) * R % P13n : Nat) : Int) := by
  refine ⟨h2.1, ?_⟩
  rw [h2.2, h1.2, ha, hb, hr, Int.natCast_emod, Int.natCast_mul, Int.natCast_add, ← P13_nat]
  rw [Int.mul_emod, Int.emod_emod_of_dvd _ (Int.dvd_refl _), ← Int.mul_emod]
theorem add_call {a0 a1 a2 a3 b0 b1 b2 b3 : Int} {A B : Nat} (ha : Lim4 a0 a1 a2 a3 ∧ val a0 a1 a2 a3 = ((A : Nat) : Int)) (hb : Lim4 b0 b1 b2 b3 ∧ val b0 b1 b2 b3 = ((B : Nat) : Int)) (hA : A < P13n) (hB : B < P13n) (W : World) :
    Calls Try.prog 21 #[.agg #[.int .u64 a0, .int .u64 a1, .int .u64 a2, .int .u64 a3], .agg #[.int .u64 b0, .int .u64 b1, .int .u64 b2, .int .u64 b3]] W fun e w' => ∃ r0 r1 r2 r3 : Int, e = .returned (.agg #[.int .u64 r0, .int .u64 r1, .int .u64 r2, .int .u64 r3]) ∧ Hid (PMod (val a0 a1 a2 a3 + val b0 b1 b2 b3) r0 r1 r2 r3) ∧ Ext W w' := by
  refine refPAdd_any _ _ _ _ _ _ _ _ ha.1 hb.1 ?_ ?_ W
  · rw [ha.2, P13_nat]; omega
  · rw [hb.2, P13_nat]; omega
theorem mul_call {X d0 d1 d2 d3 r0 r1 r2 r3 : Int} {R : Nat} (hd : PMod X d0 d1 d2 d3) (hr : Lim4 r0 r1 r2 r3 ∧ val r0 r1 r2 r3 = ((R : Nat) : Int)) (hR : R < 340282366920938463463374607431768211456) (W : World) :
    Calls Try.prog 20 #[.agg #[.int .u64 d0, .int .u64 d1, .int .u64 d2, .int .u64 d3], .agg #[.int .u64 r0, .int .u64 r1, .int .u64 r2, .int .u64 r3]] W fun e w' => ∃ m0 m1 m2 m3 : Int, e = .returned (.agg #[.int .u64 m0, .int .u64 m1, .int .u64 m2, .int .u64 m3]) ∧ Hid (PMod (val d0 d1 d2 d3 * val r0 r1 r2 r3) m0 m1 m2 m3) ∧ Ext W w' := by
  refine refPMul_any _ _ _ _ _ _ _ _ hd.1 hr.1 hd.less ?_ W
  rw [hr.2]; omega
/-- The numbers of block q. -/
theorem pblk_nums (q L : Nat) (hq : 16 * q < L) (hL : L ≤ 100000) : ∃ P P2 E : Nat, P = 16 * q ∧ P2 = 16 * (q + 1) ∧ E = P + blkM L q ∧ P < L ∧ IntKind.i64.wrap ((P : Int) + 16) = (P2 : Int) ∧ (if (L : Int) < (P2 : Int) then (L : Int) else (P2 : Int)) = (E : Int) ∧ (0 : Int) ≤ (P : Int) ∧ (P : Int) ≤ (E : Int) ∧ (E : Int) ≤ (L : Int) ∧ P ≤ E ∧ E ≤ L ∧ P2 ≤ L + 15 ∧ P2 = P + 16 := by
  refine ⟨16 * q, 16 * (q + 1), 16 * q + blkM L q, rfl, rfl, rfl, hq, ?_, ?_, ?_, ?_, ?_, ?_, ?_, ?_, ?_⟩
  · rw [IntKind.wrap_i64]; omega
  · unfold blkM; split <;> omega
  all_goals (try unfold blkM); omega
/-- The sum is no more than 256 bits. -/
theorem mac_sum {a0 a1 a2 a3 b0 b1 b2 b3 s0 s1 s2 s3 : Int} {c : Bool} {A B : Nat} (ha : val a0 a1 a2 a3 = ((A : Nat) : Int)) (hb : val b0 b1 b2 b3 = ((B : Nat) : Int)) (hA : A < P13n) (hB : B < 340282366920938463463374607431768211456) (h : AddP a0 a1 a2 a3 b0 b1 b2 b3 s0 s1 s2 s3 c) :
    Lim4 s0 s1 s2 s3 ∧ val s0 s1 s2 s3 = ((A + B : Nat) : Int) := by
  refine ⟨h.1, ?_⟩
  have h0 := val_bd h.1
  have h2 := h.2
  unfold B256 at *
  unfold P13n at hA
  rw [ha, hb] at h2
  cases c <;> simp at h2 <;> omega
theorem byte_of (r s V R : Nat) (h0 : s + 18446744073709551616 * R = V) (hr : r < 8) : s / 2 ^ (8 * r) % 256 = V / 2 ^ (8 * r) % 256 := by
  obtain rfl | rfl | rfl | rfl | rfl | rfl | rfl | rfl : r = 0 ∨ r = 1 ∨ r = 2 ∨ r = 3 ∨ r = 4 ∨ r = 5 ∨ r = 6 ∨ r = 7 := by omega
  all_goals
    simp only [Nat.reduceMul, Nat.reducePow]
    omega
/-- The numbers of byte i of the tag. -/
theorem mac_byte {s0 s1 s2 s3 : Int} {V : Nat} (hs : Lim4 s0 s1 s2 s3) (hv : val s0 s1 s2 s3 = ((V : Nat) : Int)) (i : Nat) (hi : i < 16) : ∃ q r k x b : Nat, q < 2 ∧ ((q = 0 ∧ s0 = (x : Int)) ∨ (q = 1 ∧ s1 = (x : Int))) ∧ k < 64 ∧ (i : Int).tdiv 8 = (q : Int) ∧ (i : Int).tmod 8 = (r : Int) ∧ IntKind.i64.wrap (8 * (r : Int)) = (k : Int) ∧ IntKind.u64.wrap (k : Int) = (k : Int) ∧ IntKind.i64.wrap (q : Int) = (q : Int) ∧ IntKind.i64.wrap (r : Int) = (r : Int) ∧ IntKind.u8.wrap ((x : Int) / 2 ^ k) = (b : Int) ∧ b = V / 2 ^ (8 * i) % 256 ∧ x < 18446744073709551616 := by
  obtain ⟨l0, l1, l2, l3⟩ := hs
  unfold Lim at l0 l1 l2 l3
  unfold val at hv
  obtain ⟨x0, rfl⟩ : ∃ x : Nat, s0 = (x : Int) := ⟨s0.toNat, by omega⟩
  obtain ⟨x1, rfl⟩ : ∃ x : Nat, s1 = (x : Int) := ⟨s1.toNat, by omega⟩
  obtain ⟨x2, rfl⟩ : ∃ x : Nat, s2 = (x : Int) := ⟨s2.toNat, by omega⟩
  obtain ⟨x3, rfl⟩ : ∃ x : Nat, s3 = (x : Int) := ⟨s3.toNat, by omega⟩
  have hV : x0 + 18446744073709551616 * (x1 + 18446744073709551616 * (x2 + 18446744073709551616 * x3)) = V := by omega
  have hd : (i : Int).tdiv 8 = ((i / 8 : Nat) : Int) := by rw [Int.tdiv_eq_ediv_of_nonneg (by omega)]; omega
  have hm : (i : Int).tmod 8 = ((i % 8 : Nat) : Int) := by rw [Int.tmod_eq_emod_of_nonneg (by omega)]; omega
  have h8 : IntKind.i64.wrap (8 * ((i % 8 : Nat) : Int)) = ((8 * (i % 8) : Nat) : Int) := by rw [IntKind.wrap_i64]; omega
  have h9 : IntKind.u64.wrap ((8 * (i % 8) : Nat) : Int) = ((8 * (i % 8) : Nat) : Int) := by rw [IntKind.wrap_u64]; omega
  have e1 : IntKind.i64.wrap ((i / 8 : Nat) : Int) = ((i / 8 : Nat) : Int) := by rw [IntKind.wrap_i64]; omega
  have e2 : IntKind.i64.wrap ((i % 8 : Nat) : Int) = ((i % 8 : Nat) : Int) := by rw [IntKind.wrap_i64]; omega
  have hw : ∀ x : Nat, IntKind.u8.wrap ((x : Int) / 2 ^ (8 * (i % 8))) = ((x / 2 ^ (8 * (i % 8)) % 256 : Nat) : Int) := fun x => by
    rw [IntKind.wrap_u8']
    have e : (2 : Int) ^ (8 * (i % 8)) = ((2 ^ (8 * (i % 8)) : Nat) : Int) := by rw [Int.natCast_pow]; rfl
    rw [e, Int.natCast_emod, Int.natCast_ediv]
    rfl
  by_cases h : i < 8
  · refine ⟨i / 8, i % 8, 8 * (i % 8), x0, _, by omega, Or.inl ⟨by omega, rfl⟩, by omega, hd, hm, h8, h9, e1, e2, hw x0, ?_, by omega⟩
    rw [byte_of (i % 8) x0 V _ hV (by omega), show i % 8 = i by omega]
  · refine ⟨i / 8, i % 8, 8 * (i % 8), x1, _, by omega, Or.inr ⟨by omega, rfl⟩, by omega, hd, hm, h8, h9, e1, e2, hw x1, ?_, by omega⟩
    have hV1 : x1 + 18446744073709551616 * (x2 + 18446744073709551616 * x3) = V / 18446744073709551616 := by omega
    rw [byte_of (i % 8) x1 _ _ hV1 (by omega), Nat.div_div_eq_div_mul]
    congr 2
    rw [show (18446744073709551616 : Nat) = 2 ^ 64 from by decide, ← Nat.pow_add]
    congr 1
    omega
end Go.Proofs.Ytgpcnmdaplkpoaa

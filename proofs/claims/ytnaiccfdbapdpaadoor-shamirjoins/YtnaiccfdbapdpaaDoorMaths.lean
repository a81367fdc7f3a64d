/-
  The plain numbers of this seat: four words of 64 bits as one number; no Go in this text.
  Products of two words, as math/bits.Mul64 makes them, and as limbs.mulAdd puts two more words in.
  What limbs.Mul's loops come to: the eight words are the product.
  Numbers modulo q, the order: no Go in this text.
  Numbers in words of 32 bits, and the product that two loops make of them. No Go in this text.
  What scalar.fold and scalar.modulo reckon: 2^256 is 2^256 - q modulo q; no Go in this text.
  Primes, without Go: prime divisors, Euclid's lemma, Fermat's little theorem, and a test by a known factor of n - 1 (Pocklington).
  The curve's two primes are primes: the field's p and the order of the base. No Go in this text.
-/
import Derived.WalkKit
namespace Go.Proofs.YtnaiccfdbapdpaaDoor

/-- A word of 64 bits. -/
def Lim (a : Int) : Prop := 0 ≤ a ∧ a < 18446744073709551616
def Lim4 (a b c d : Int) : Prop := Lim a ∧ Lim b ∧ Lim c ∧ Lim d
/-- The number of four words, the lowest first. -/
def val (a b c d : Int) : Int := a + 18446744073709551616 * (b + 18446744073709551616 * (c + 18446744073709551616 * d))
/-- 2^256. -/
def B256 : Int := 115792089237316195423570985008687907853269984665640564039457584007913129639936
/-- One word's sum: s and the carry k, of x, y and the carry c. -/
def Sum1 (x y c s k : Int) : Prop := Lim s ∧ 0 ≤ k ∧ k ≤ 1 ∧ s + 18446744073709551616 * k = x + y + c
/-- One word's difference: s and the borrow k, of x, y and the borrow c. -/
def Dif1 (x y c s k : Int) : Prop := Lim s ∧ 0 ≤ k ∧ k ≤ 1 ∧ s = x - y - c + 18446744073709551616 * k
def AddP (a0 a1 a2 a3 b0 b1 b2 b3 s0 s1 s2 s3 : Int) (c : Bool) : Prop :=
  Lim4 s0 s1 s2 s3 ∧ val s0 s1 s2 s3 + (if c then B256 else 0) = val a0 a1 a2 a3 + val b0 b1 b2 b3
def SubP (a0 a1 a2 a3 b0 b1 b2 b3 s0 s1 s2 s3 : Int) (c : Bool) : Prop :=
  Lim4 s0 s1 s2 s3 ∧ val s0 s1 s2 s3 = val a0 a1 a2 a3 - val b0 b1 b2 b3 + (if c then B256 else 0)

theorem addP_of {a0 a1 a2 a3 b0 b1 b2 b3 s0 s1 s2 s3 k0 k1 k2 k3 : Int} (h0 : Sum1 a0 b0 0 s0 k0) (h1 : Sum1 a1 b1 k0 s1 k1) (h2 : Sum1 a2 b2 k1 s2 k2) (h3 : Sum1 a3 b3 k2 s3 k3) :
    AddP a0 a1 a2 a3 b0 b1 b2 b3 s0 s1 s2 s3 (k3 != 0) := by
  obtain ⟨l0, p0, q0, e0⟩ := h0
  obtain ⟨l1, p1, q1, e1⟩ := h1
  obtain ⟨l2, p2, q2, e2⟩ := h2
  obtain ⟨l3, p3, q3, e3⟩ := h3
  refine ⟨⟨l0, l1, l2, l3⟩, ?_⟩
  have hk : k3 = 0 ∨ k3 = 1 := by omega
  unfold val B256
  rcases hk with rfl | rfl
  · simp; omega
  · simp; omega
theorem subP_of {a0 a1 a2 a3 b0 b1 b2 b3 s0 s1 s2 s3 k0 k1 k2 k3 : Int} (h0 : Dif1 a0 b0 0 s0 k0) (h1 : Dif1 a1 b1 k0 s1 k1) (h2 : Dif1 a2 b2 k1 s2 k2) (h3 : Dif1 a3 b3 k2 s3 k3) :
    SubP a0 a1 a2 a3 b0 b1 b2 b3 s0 s1 s2 s3 (k3 != 0) := by
  obtain ⟨l0, p0, q0, e0⟩ := h0
  obtain ⟨l1, p1, q1, e1⟩ := h1
  obtain ⟨l2, p2, q2, e2⟩ := h2
  obtain ⟨l3, p3, q3, e3⟩ := h3
  refine ⟨⟨l0, l1, l2, l3⟩, ?_⟩
  have hk : k3 = 0 ∨ k3 = 1 := by omega
  unfold val B256
  rcases hk with rfl | rfl
  · simp; omega
  · simp; omega
theorem val_inj {a0 a1 a2 a3 b0 b1 b2 b3 : Int} (ha : Lim4 a0 a1 a2 a3) (hb : Lim4 b0 b1 b2 b3) (h : val a0 a1 a2 a3 = val b0 b1 b2 b3) : a0 = b0 ∧ a1 = b1 ∧ a2 = b2 ∧ a3 = b3 := by
  unfold Lim4 Lim at ha hb; unfold val at h
  omega
theorem val_bd {a0 a1 a2 a3 : Int} (ha : Lim4 a0 a1 a2 a3) : 0 ≤ val a0 a1 a2 a3 ∧ val a0 a1 a2 a3 < B256 := by
  unfold Lim4 Lim at ha; unfold val B256
  omega
end Go.Proofs.YtnaiccfdbapdpaaDoor
namespace Go.Proofs.YtnaiccfdbapdpaaDoor
open Go.RowKit
theorem and32 (x : Int) (h : Lim x) : bits BinOp.and IntKind.u64 x 4294967295 = x % 4294967296 := by
  have := bits_mask .u64 64 (by decide) (fun n p q => by rw [IntKind.wrap_u64]; have : (2 : Int) ^ 64 = 18446744073709551616 := by decide
                                                         omega) 32 (by decide) x h.1 (by rw [show (2 : Int) ^ 64 = 18446744073709551616 from by decide]; exact h.2)
  rw [show (2 : Int) ^ 32 - 1 = 4294967295 from by decide, show (2 : Int) ^ 32 = 4294967296 from by decide] at this
  exact this
theorem mul_bd (a b : Int) (h0 : 0 ≤ a) (h1 : a ≤ 4294967295) (g0 : 0 ≤ b) (g1 : b ≤ 4294967295) : 0 ≤ a * b ∧ a * b ≤ 18446744065119617025 :=
  ⟨Int.mul_nonneg h0 g0, Int.le_trans (Int.mul_le_mul h1 g1 g0 (by omega)) (by decide)⟩
/-- The upper word of a product, as the library's text reckons it. -/
def mhi (x y : Int) : Int := IntKind.u64.wrap (IntKind.u64.wrap (IntKind.u64.wrap (x / 4294967296 * (y / 4294967296)) + IntKind.u64.wrap (IntKind.u64.wrap (x / 4294967296 * bits BinOp.and IntKind.u64 y 4294967295) + IntKind.u64.wrap (bits BinOp.and IntKind.u64 x 4294967295 * bits BinOp.and IntKind.u64 y 4294967295) / 4294967296) / 4294967296) + IntKind.u64.wrap (bits BinOp.and IntKind.u64 (IntKind.u64.wrap (IntKind.u64.wrap (x / 4294967296 * bits BinOp.and IntKind.u64 y 4294967295) + IntKind.u64.wrap (bits BinOp.and IntKind.u64 x 4294967295 * bits BinOp.and IntKind.u64 y 4294967295) / 4294967296)) 4294967295 + IntKind.u64.wrap (bits BinOp.and IntKind.u64 x 4294967295 * (y / 4294967296))) / 4294967296)
def Prod1 (x y hi lo : Int) : Prop := Lim hi ∧ Lim lo ∧ lo + 18446744073709551616 * hi = x * y
theorem mhi_ok (x y : Int) (hx : Lim x) (hy : Lim y) : Prod1 x y (mhi x y) (IntKind.u64.wrap (x * y)) := by
  unfold Prod1 mhi
  have wl : ∀ n : Int, Lim (IntKind.u64.wrap n) := fun n => by rw [IntKind.wrap_u64]; unfold Lim; omega
  rw [and32 _ (wl _), and32 x hx, and32 y hy]
  simp only [IntKind.wrap_u64]
  unfold Lim at *
  have b00 := mul_bd (x % 4294967296) (y % 4294967296) (by omega) (by omega) (by omega) (by omega)
  have b01 := mul_bd (x % 4294967296) (y / 4294967296) (by omega) (by omega) (by omega) (by omega)
  have b10 := mul_bd (x / 4294967296) (y % 4294967296) (by omega) (by omega) (by omega) (by omega)
  have b11 := mul_bd (x / 4294967296) (y / 4294967296) (by omega) (by omega) (by omega) (by omega)
  have hxy : x * y = 18446744073709551616 * (x / 4294967296 * (y / 4294967296)) + 4294967296 * (x / 4294967296 * (y % 4294967296)) + 4294967296 * (x % 4294967296 * (y / 4294967296)) + x % 4294967296 * (y % 4294967296) := by
    have ex : x = 4294967296 * (x / 4294967296) + x % 4294967296 := by omega
    have ey : y = 4294967296 * (y / 4294967296) + y % 4294967296 := by omega
    generalize x / 4294967296 = x1 at ex ⊢
    generalize x % 4294967296 = x0 at ex ⊢
    generalize y / 4294967296 = y1 at ey ⊢
    generalize y % 4294967296 = y0 at ey ⊢
    subst ex ey
    grind
  rw [hxy]
  generalize x / 4294967296 * (y / 4294967296) = p11 at *
  generalize x / 4294967296 * (y % 4294967296) = p10 at *
  generalize x % 4294967296 * (y / 4294967296) = p01 at *
  generalize x % 4294967296 * (y % 4294967296) = p00 at *
  clear hxy wl hx hy
  refine ⟨?_, ?_, ?_⟩ <;> omega
/-- Two words of x*y + c + d. -/
def MulAdd1 (x y c d hi lo : Int) : Prop := Lim hi ∧ Lim lo ∧ lo + 18446744073709551616 * hi = x * y + c + d
theorem prod_bd (x y : Int) (hx : Lim x) (hy : Lim y) : 0 ≤ x * y ∧ x * y ≤ 340282366920938463426481119284349108225 := by
  unfold Lim at *
  exact ⟨Int.mul_nonneg hx.1 hy.1, Int.le_trans (Int.mul_le_mul (show x ≤ 18446744073709551615 by omega) (show y ≤ 18446744073709551615 by omega) hy.1 (by omega)) (by decide)⟩
theorem mulAdd_ok {x y c d hi lo l1 k1 l2 k2 : Int} (hx : Lim x) (hy : Lim y) (hc : Lim c) (hd : Lim d) (h : Prod1 x y hi lo) (h1 : Sum1 lo c 0 l1 k1) (h2 : Sum1 l1 d 0 l2 k2) :
    MulAdd1 x y c d (IntKind.u64.wrap (IntKind.u64.wrap (hi + k1) + k2)) l2 := by
  have hb := prod_bd x y hx hy
  unfold MulAdd1 Prod1 Sum1 Lim at *
  simp only [IntKind.wrap_u64]
  generalize x * y = q at *
  refine ⟨?_, ?_, ?_⟩ <;> omega
end Go.Proofs.YtnaiccfdbapdpaaDoor
namespace Go.Proofs.YtnaiccfdbapdpaaDoor
/-- The lower four words and the upper four are those of the product. -/
def MulP (a b lo hi : Int) : Prop := lo + B256 * hi = a * b
theorem mul16 {a0 a1 a2 a3 b0 b1 b2 b3 l00 h00 l01 h01 l02 h02 l03 h03 l10 h10 l11 h11 l12 h12 l13 h13 l20 h20 l21 h21 l22 h22 l23 h23 l30 h30 l31 h31 l32 h32 l33 h33 : Int}
    (e00 : MulAdd1 a0 b0 0 0 h00 l00) (e01 : MulAdd1 a0 b1 0 h00 h01 l01) (e02 : MulAdd1 a0 b2 0 h01 h02 l02) (e03 : MulAdd1 a0 b3 0 h02 h03 l03)
    (e10 : MulAdd1 a1 b0 l01 0 h10 l10) (e11 : MulAdd1 a1 b1 l02 h10 h11 l11) (e12 : MulAdd1 a1 b2 l03 h11 h12 l12) (e13 : MulAdd1 a1 b3 h03 h12 h13 l13)
    (e20 : MulAdd1 a2 b0 l11 0 h20 l20) (e21 : MulAdd1 a2 b1 l12 h20 h21 l21) (e22 : MulAdd1 a2 b2 l13 h21 h22 l22) (e23 : MulAdd1 a2 b3 h13 h22 h23 l23)
    (e30 : MulAdd1 a3 b0 l21 0 h30 l30) (e31 : MulAdd1 a3 b1 l22 h30 h31 l31) (e32 : MulAdd1 a3 b2 l23 h31 h32 l32) (e33 : MulAdd1 a3 b3 h23 h32 h33 l33) :
    Lim4 l00 l10 l20 l30 ∧ Lim4 l31 l32 l33 h33 ∧ MulP (val a0 a1 a2 a3) (val b0 b1 b2 b3) (val l00 l10 l20 l30) (val l31 l32 l33 h33) := by
  refine ⟨⟨e00.2.1, e10.2.1, e20.2.1, e30.2.1⟩, ⟨e31.2.1, e32.2.1, e33.2.1, e33.1⟩, ?_⟩
  have q00 := e00.2.2; have q01 := e01.2.2; have q02 := e02.2.2; have q03 := e03.2.2
  have q10 := e10.2.2; have q11 := e11.2.2; have q12 := e12.2.2; have q13 := e13.2.2
  have q20 := e20.2.2; have q21 := e21.2.2; have q22 := e22.2.2; have q23 := e23.2.2
  have q30 := e30.2.2; have q31 := e31.2.2; have q32 := e32.2.2; have q33 := e33.2.2
  clear e00 e01 e02 e03 e10 e11 e12 e13 e20 e21 e22 e23 e30 e31 e32 e33
  unfold MulP
  have hp : val a0 a1 a2 a3 * val b0 b1 b2 b3 = a0 * b0 + 18446744073709551616 * (a0 * b1 + a1 * b0 + 18446744073709551616 * (a0 * b2 + a1 * b1 + a2 * b0 + 18446744073709551616 * (a0 * b3 + a1 * b2 + a2 * b1 + a3 * b0 + 18446744073709551616 * (a1 * b3 + a2 * b2 + a3 * b1 + 18446744073709551616 * (a2 * b3 + a3 * b2 + 18446744073709551616 * (a3 * b3)))))) := by
    unfold val
    grind
  rw [hp]
  clear hp
  unfold val B256
  generalize a0 * b0 = m00 at *
  generalize a0 * b1 = m01 at *
  generalize a0 * b2 = m02 at *
  generalize a0 * b3 = m03 at *
  generalize a1 * b0 = m10 at *
  generalize a1 * b1 = m11 at *
  generalize a1 * b2 = m12 at *
  generalize a1 * b3 = m13 at *
  generalize a2 * b0 = m20 at *
  generalize a2 * b1 = m21 at *
  generalize a2 * b2 = m22 at *
  generalize a2 * b3 = m23 at *
  generalize a3 * b0 = m30 at *
  generalize a3 * b1 = m31 at *
  generalize a3 * b2 = m32 at *
  generalize a3 * b3 = m33 at *
  omega
end Go.Proofs.YtnaiccfdbapdpaaDoor
namespace Go.Proofs.YtnaiccfdbapdpaaDoor
/-- The order. -/
def FQ : Int := 115792089210356248762697446949407573529996955224135760342422259061068512044369
theorem val_FQ : val 17562291160714782033 13611842547513532036 18446744073709551615 18446744069414584320 = FQ := by decide
theorem lim_FQ : Lim4 17562291160714782033 13611842547513532036 18446744073709551615 18446744069414584320 := by unfold Lim4 Lim; decide
theorem FQ_pos : (0 : Int) < FQ := by decide
/-- A number modulo q. -/
def QMod (x r0 r1 r2 r3 : Int) : Prop := Lim4 r0 r1 r2 r3 ∧ val r0 r1 r2 r3 = x % FQ
theorem QMod.less {x r0 r1 r2 r3 : Int} (h : QMod x r0 r1 r2 r3) : val r0 r1 r2 r3 < FQ := by
  rw [h.2]; exact Int.emod_lt_of_pos _ FQ_pos
theorem QMod.cong {x y r0 r1 r2 r3 : Int} (h : QMod x r0 r1 r2 r3) (e : x % FQ = y % FQ) : QMod y r0 r1 r2 r3 := ⟨h.1, h.2.trans e⟩
theorem QMod.one {x y a0 a1 a2 a3 b0 b1 b2 b3 : Int} (h : QMod x a0 a1 a2 a3) (k : QMod y b0 b1 b2 b3) (e : x % FQ = y % FQ) : a0 = b0 ∧ a1 = b1 ∧ a2 = b2 ∧ a3 = b3 :=
  val_inj h.1 k.1 (by rw [h.2, k.2, e])
theorem emodq_of {a b : Int} (c : Int) (h : a = b + FQ * c) : a % FQ = b % FQ := by rw [h, Int.add_mul_emod_self_left]
theorem qmod_less {x0 x1 x2 x3 : Int} (hx : Lim4 x0 x1 x2 x3) (h : val x0 x1 x2 x3 < FQ) : QMod (val x0 x1 x2 x3) x0 x1 x2 x3 :=
  ⟨hx, (Int.emod_eq_of_lt (val_bd hx).1 h).symm⟩
theorem modq_mul_mod (x y : Int) : (x % FQ * y) % FQ = (x * y) % FQ := by rw [Int.mul_emod, Int.emod_emod_of_dvd _ (Int.dvd_refl _), ← Int.mul_emod]
theorem mul_modq_mod (x y : Int) : (x * (y % FQ)) % FQ = (x * y) % FQ := by rw [Int.mul_emod, Int.emod_emod_of_dvd _ (Int.dvd_refl _), ← Int.mul_emod]
end Go.Proofs.YtnaiccfdbapdpaaDoor
namespace Go.Proofs.YtnaiccfdbapdpaaDoor
/-- The number of the first n words of 32 bits, the lowest first. -/
def ev (P : Nat → Int) : Nat → Int
  | 0 => 0
  | n + 1 => ev P n + P n * 4294967296 ^ n
/-- A word of 32 bits. -/
def Half (x : Int) : Prop := 0 ≤ x ∧ x < 4294967296
theorem ev_congr {P Q : Nat → Int} {n : Nat} (h : ∀ t, t < n → P t = Q t) : ev P n = ev Q n := by
  induction n with
  | zero => rfl
  | succ n ih => simp only [ev]; rw [ih (fun t ht => h t (by omega)), h n (by omega)]
theorem ev_set (P : Nat → Int) (k : Nat) (v : Int) (n : Nat) (h : k < n) : ev (fun t => if t = k then v else P t) n = ev P n + (v - P k) * 4294967296 ^ k := by
  induction n with
  | zero => omega
  | succ n ih =>
    simp only [ev]
    by_cases e : n = k
    · subst e
      have : ev (fun t => if t = n then v else P t) n = ev P n := ev_congr (fun t ht => by simp [show t ≠ n from by omega])
      rw [this]
      simp only [if_true]
      generalize (4294967296 : Int) ^ n = q
      grind
    · rw [ih (by omega)]
      simp only [e, if_false]
      generalize (4294967296 : Int) ^ n = q
      generalize (4294967296 : Int) ^ k = r
      grind
/-- Within row i, behind j rounds: the sixteen words P and the carry C; P0: the words as the row began. -/
def InP (X Y P0 : Nat → Int) (i j : Nat) (P : Nat → Int) (C : Int) : Prop :=
  (∀ t, Half (P t)) ∧ Half C ∧ (∀ t, i + 8 ≤ t → P t = 0) ∧ ev P 16 + C * 4294967296 ^ (i + j) = ev P0 16 + X i * ev Y j * 4294967296 ^ i
/-- Behind i rows. -/
def OutP (X Y : Nat → Int) (i : Nat) (P : Nat → Int) : Prop :=
  (∀ t, Half (P t)) ∧ (∀ t, i + 8 ≤ t → P t = 0) ∧ ev P 16 = ev X i * ev Y 8
theorem InP.start {X Y P : Nat → Int} {i : Nat} (h : OutP X Y i P) : InP X Y P i 0 P 0 := by
  refine ⟨h.1, ⟨by omega, by omega⟩, h.2.1, ?_⟩
  simp [ev]
theorem InP.step {X Y P0 P : Nat → Int} {C : Int} {i j : Nat} (h : InP X Y P0 i j P C) (hi : i < 8) (hj : j < 8) {lo hi' : Int} (hl : Half lo) (hh : Half hi') (he : lo + 4294967296 * hi' = P (i + j) + X i * Y j + C) :
    InP X Y P0 i (j + 1) (fun t => if t = i + j then lo else P t) hi' := by
  obtain ⟨h1, _, h3, h4⟩ := h
  refine ⟨fun t => ?_, hh, fun t ht => ?_, ?_⟩
  · show Half (if t = i + j then lo else P t)
    split
    · exact hl
    · exact h1 t
  · show (if t = i + j then lo else P t) = 0
    rw [if_neg (by omega)]
    exact h3 t ht
  · rw [ev_set P (i + j) lo 16 (by omega)]
    rw [show ev Y (j + 1) = ev Y j + Y j * 4294967296 ^ j from rfl]
    have e1 : (4294967296 : Int) ^ (i + (j + 1)) = 4294967296 ^ (i + j) * 4294967296 := by rw [← Nat.add_assoc]; exact Int.pow_succ _ _
    rw [e1, show (4294967296 : Int) ^ (i + j) = 4294967296 ^ i * 4294967296 ^ j from Int.pow_add _ _ _]
    rw [show (4294967296 : Int) ^ (i + j) = 4294967296 ^ i * 4294967296 ^ j from Int.pow_add _ _ _] at h4
    generalize (4294967296 : Int) ^ i = q at *
    generalize (4294967296 : Int) ^ j = r at *
    generalize ev P 16 = u at *
    generalize ev P0 16 = u0 at *
    generalize ev Y j = y at *
    generalize P (i + j) = p at *
    generalize X i = x at *
    generalize Y j = z at *
    have e2 : lo = p + x * z + C - 4294967296 * hi' := by omega
    subst e2
    grind
theorem OutP.step {X Y P0 P : Nat → Int} {C : Int} {i : Nat} (h0 : OutP X Y i P0) (h : InP X Y P0 i 8 P C) (hi : i < 8) : OutP X Y (i + 1) (fun t => if t = i + 8 then C else P t) := by
  obtain ⟨h1, h2, h3, h4⟩ := h
  refine ⟨fun t => ?_, fun t ht => ?_, ?_⟩
  · show Half (if t = i + 8 then C else P t)
    split
    · exact h2
    · exact h1 t
  · show (if t = i + 8 then C else P t) = 0
    rw [if_neg (by omega)]
    exact h3 t (by omega)
  · rw [ev_set P (i + 8) C 16 (by omega), h3 (i + 8) (by omega)]
    have h5 := h0.2.2
    rw [show ev X (i + 1) = ev X i + X i * 4294967296 ^ i from rfl]
    rw [h5] at h4
    generalize (4294967296 : Int) ^ i = q at *
    generalize (4294967296 : Int) ^ (i + 8) = r at *
    generalize ev P 16 = u at *
    grind
theorem OutP.zero (X Y : Nat → Int) : OutP X Y 0 (fun _ => 0) := by
  refine ⟨fun _ => (show Half 0 from ⟨by omega, by omega⟩), fun _ _ => rfl, ?_⟩
  simp [ev]
/-- One round's word: no sum passes 2^64. -/
theorem round_ok {p x y c : Int} (hp : Half p) (hx : Half x) (hy : Half y) (hc : Half c) : 0 ≤ x * y ∧ x * y ≤ 18446744065119617025 ∧ 0 ≤ p + x * y + c ∧ p + x * y + c < 18446744073709551616 := by
  unfold Half at *
  have h := mul_bd x y hx.1 (by omega) hy.1 (by omega)
  omega
end Go.Proofs.YtnaiccfdbapdpaaDoor
namespace Go.Proofs.YtnaiccfdbapdpaaDoor
/-- 2^256 - q. -/
def CQ : Int := 26959946660873538059280334323273029441504803697035324946844617595567
theorem CQ_FQ : FQ = B256 - CQ := by decide
/-- The number of eight words, the lowest first. -/
def v8 (r0 r1 r2 r3 r4 r5 r6 r7 : Int) : Int := val r0 r1 r2 r3 + B256 * val r4 r5 r6 r7
/-- Five words behind a fold: what stood there, and over times 2^256 - q. -/
def FoldP (o r0 r1 r2 r3 s0 s1 s2 s3 s4 : Int) : Prop := Lim4 s0 s1 s2 s3 ∧ Lim s4 ∧ val s0 s1 s2 s3 + B256 * s4 = val r0 r1 r2 r3 + o * CQ
theorem fold_of {o r0 r1 r2 r3 u0 w0 u1 w1 w4 w3 x1 k s0 k0 s1 k1 s2 k2 s3 k3 : Int} (ho : Lim o)
    (p0 : Prod1 o 884452912994769583 u0 w0) (p1 : Prod1 o 4834901526196019579 u1 w1) (p3 : Prod1 o 4294967295 w4 w3) (a : Sum1 w1 u0 0 x1 k)
    (a0 : Sum1 r0 w0 0 s0 k0) (a1 : Sum1 r1 x1 k0 s1 k1) (a2 : Sum1 r2 (IntKind.u64.wrap (u1 + k)) k1 s2 k2) (a3 : Sum1 r3 w3 k2 s3 k3) :
    FoldP o r0 r1 r2 r3 s0 s1 s2 s3 (IntKind.u64.wrap (IntKind.u64.wrap (w4 + k3))) := by
  have hu : u1 + k < 18446744073709551616 ∧ 0 ≤ u1 + k := by
    unfold Prod1 Sum1 Lim at *
    clear a0 a1 a2 a3 p0 p3
    omega
  have hw : w4 + k3 < 18446744073709551616 ∧ 0 ≤ w4 + k3 := by
    unfold Prod1 Sum1 Lim at *
    clear a a0 a1 a2 p0 p1 hu
    omega
  have e1 : IntKind.u64.wrap (u1 + k) = u1 + k := by rw [IntKind.wrap_u64]; omega
  have e2 : IntKind.u64.wrap (w4 + k3) = w4 + k3 := by rw [IntKind.wrap_u64]; omega
  rw [e1] at a2
  rw [e2, e2]
  clear e1 e2 hu
  obtain ⟨_, _, q0⟩ := p0
  obtain ⟨_, _, q1⟩ := p1
  obtain ⟨_, _, q3⟩ := p3
  refine ⟨⟨a0.1, a1.1, a2.1, a3.1⟩, ⟨hw.2, hw.1⟩, ?_⟩
  have b := a.2.2.2
  have b0 := a0.2.2.2
  have b1 := a1.2.2.2
  have b2 := a2.2.2.2
  have b3 := a3.2.2.2
  clear a a0 a1 a2 a3 ho hw
  unfold val B256 CQ
  omega
theorem wrap_lim (u1 k : Int) : Lim (IntKind.u64.wrap (u1 + k)) := by
  rw [IntKind.wrap_u64]; unfold Lim; omega
def Lim8 (r0 r1 r2 r3 r4 r5 r6 r7 : Int) : Prop := Lim4 r0 r1 r2 r3 ∧ Lim4 r4 r5 r6 r7
theorem round3 {r0 r1 r2 r3 r4 r5 r6 r7 s0 s1 s2 s3 s4 : Int} (h : Lim8 r0 r1 r2 r3 r4 r5 r6 r7) (f : FoldP r7 r3 r4 r5 r6 s0 s1 s2 s3 s4) :
    Lim8 r0 r1 r2 s0 s1 s2 s3 s4 ∧ v8 r0 r1 r2 s0 s1 s2 s3 s4 = v8 r0 r1 r2 r3 r4 r5 r6 r7 + FQ * (-(6277101735386680763835789423207666416102355444464034512896 * r7)) := by
  unfold FoldP at f
  unfold Lim8 Lim4 Lim v8 val B256 CQ FQ at *
  omega
theorem round2 {r0 r1 r2 r3 r4 r5 r6 s0 s1 s2 s3 s4 : Int} (h : Lim8 r0 r1 r2 r3 r4 r5 r6 0) (f : FoldP r6 r2 r3 r4 r5 s0 s1 s2 s3 s4) :
    Lim8 r0 r1 s0 s1 s2 s3 s4 0 ∧ v8 r0 r1 s0 s1 s2 s3 s4 0 = v8 r0 r1 r2 r3 r4 r5 r6 0 + FQ * (-(340282366920938463463374607431768211456 * r6)) := by
  unfold FoldP at f
  unfold Lim8 Lim4 Lim v8 val B256 CQ FQ at *
  omega
theorem round1 {r0 r1 r2 r3 r4 r5 s0 s1 s2 s3 s4 : Int} (h : Lim8 r0 r1 r2 r3 r4 r5 0 0) (f : FoldP r5 r1 r2 r3 r4 s0 s1 s2 s3 s4) :
    Lim8 r0 s0 s1 s2 s3 s4 0 0 ∧ v8 r0 s0 s1 s2 s3 s4 0 0 = v8 r0 r1 r2 r3 r4 r5 0 0 + FQ * (-(18446744073709551616 * r5)) := by
  unfold FoldP at f
  unfold Lim8 Lim4 Lim v8 val B256 CQ FQ at *
  omega
theorem round0 {r0 r1 r2 r3 r4 s0 s1 s2 s3 s4 : Int} (_h : Lim8 r0 r1 r2 r3 r4 0 0 0) (f : FoldP r4 r0 r1 r2 r3 s0 s1 s2 s3 s4) :
    Lim8 s0 s1 s2 s3 s4 0 0 0 ∧ v8 s0 s1 s2 s3 s4 0 0 0 = v8 r0 r1 r2 r3 r4 0 0 0 + FQ * (-(1 * r4)) := by
  unfold FoldP at f
  unfold Lim8 Lim4 Lim v8 val B256 CQ FQ at *
  omega
theorem v8_pos {r0 r1 r2 r3 r4 r5 r6 r7 : Int} (h : Lim8 r0 r1 r2 r3 r4 r5 r6 r7) : 0 ≤ v8 r0 r1 r2 r3 r4 r5 r6 r7 := by
  unfold Lim8 Lim4 Lim at h; unfold v8 val B256; omega
/-- A round takes a multiple of q away. -/
theorem less_of {V V' m o : Int} (hm : 0 < m) (ho : 0 < o) (h' : 0 ≤ V') (e : V' = V + FQ * (-(m * o))) : V'.toNat < V.toNat := by
  have h1 : 0 < m * o := Int.mul_pos hm ho
  have h2 : 0 < FQ * (m * o) := Int.mul_pos FQ_pos h1
  rw [Int.mul_neg] at e
  omega
end Go.Proofs.YtnaiccfdbapdpaaDoor
namespace Go.Proofs.YtnaiccfdbapdpaaDoor
/-- A prime. -/
def Pr (n : Nat) : Prop := 2 ≤ n ∧ ∀ d, d ∣ n → d = 1 ∨ d = n
theorem Pr.coprime {p a : Nat} (hp : Pr p) (h : ¬ p ∣ a) : Nat.Coprime p a := by
  rcases hp.2 (Nat.gcd p a) (Nat.gcd_dvd_left p a) with h1 | h1
  · exact h1
  · exact absurd (h1 ▸ Nat.gcd_dvd_right p a) h
theorem Pr.mul {p a b : Nat} (hp : Pr p) (h : p ∣ a * b) : p ∣ a ∨ p ∣ b := by
  by_cases ha : p ∣ a
  · exact .inl ha
  · exact .inr (Nat.Coprime.dvd_of_dvd_mul_left (hp.coprime ha) h)
theorem Pr.pow {p a : Nat} (hp : Pr p) : ∀ {n : Nat}, p ∣ a ^ n → p ∣ a := by
  intro n
  induction n with
  | zero => intro h; rw [Nat.pow_zero] at h; have := Nat.le_of_dvd (by decide) h; have := hp.1; omega
  | succ n ih => intro h; rw [Nat.pow_succ] at h; rcases hp.mul h with h | h; exact ih h; exact h
/-- Every number from 2 on that is no prime has a prime divisor whose square is not greater. -/
theorem prime_divisor : ∀ n : Nat, 2 ≤ n → ∃ r, Pr r ∧ r ∣ n ∧ (¬ Pr n → r * r ≤ n) := by
  intro n
  induction n using Nat.strongRecOn with
  | _ n ih =>
    intro hn
    by_cases hp : Pr n
    · exact ⟨n, hp, Nat.dvd_refl n, fun h => absurd hp h⟩
    · have : ∃ d, d ∣ n ∧ d ≠ 1 ∧ d ≠ n := by
        refine Classical.byContradiction fun hc => hp ⟨hn, fun d hd => ?_⟩
        by_cases h1 : d = 1
        · exact .inl h1
        · by_cases h2 : d = n
          · exact .inr h2
          · exact absurd ⟨d, hd, h1, h2⟩ hc
      obtain ⟨d, hd, h1, h2⟩ := this
      obtain ⟨e, he⟩ := hd
      have hd0 : d ≠ 0 := by intro h; subst h; simp at he; omega
      have he0 : e ≠ 0 := by intro h; subst h; simp at he; omega
      have he1 : e ≠ 1 := by intro h; subst h; simp at he; omega
      have hdn : d < n := by
        rw [he]
        exact (Nat.lt_mul_iff_one_lt_right (by omega)).2 (by omega)
      have hen : e < n := by
        rw [he]
        exact (Nat.lt_mul_iff_one_lt_left (by omega)).2 (by omega)
      rcases Nat.le_total d e with hle | hle
      · obtain ⟨r, hr, hrd, _⟩ := ih d hdn (by omega)
        refine ⟨r, hr, Nat.dvd_trans hrd ⟨e, he⟩, fun _ => ?_⟩
        have := Nat.le_of_dvd (by omega) hrd
        rw [he]
        exact Nat.mul_le_mul this (Nat.le_trans this hle)
      · obtain ⟨r, hr, hrd, _⟩ := ih e hen (by omega)
        refine ⟨r, hr, Nat.dvd_trans hrd ⟨d, by rw [Nat.mul_comm]; exact he⟩, fun _ => ?_⟩
        have := Nat.le_of_dvd (by omega) hrd
        rw [he]
        exact Nat.mul_le_mul (Nat.le_trans this hle) this
/-- Two lists without repeats, one within the other and as long: the same up to order. -/
theorem perm_of_sub : ∀ (l k : List Nat), l.Nodup → l ⊆ k → k.length ≤ l.length → l.Perm k := by
  intro l
  induction l with
  | nil => intro k _ _ h; have : k = [] := List.eq_nil_of_length_eq_zero (by simpa using h); subst this; exact List.Perm.refl _
  | cons a l ih =>
    intro k hn hs hl
    have ha : a ∈ k := hs (List.mem_cons_self)
    have hk := List.perm_cons_erase ha
    refine List.Perm.trans (List.Perm.cons a (ih (k.erase a) (List.nodup_cons.1 hn).2 ?_ ?_)) hk.symm
    · intro x hx
      have hxa : x ≠ a := fun e => (List.nodup_cons.1 hn).1 (e ▸ hx)
      exact (List.mem_erase_of_ne hxa).2 (hs (List.mem_cons_of_mem a hx))
    · rw [List.length_erase_of_mem ha]
      simp at hl
      omega
theorem prod_map_mod (a p : Nat) (l : List Nat) : (l.map fun x => a * x % p).prod % p = a ^ l.length * l.prod % p := by
  induction l with
  | nil => simp
  | cons x l ih =>
    simp only [List.map_cons, List.prod_cons, List.length_cons]
    rw [Nat.mul_mod, ih, Nat.mod_mod, ← Nat.mul_mod, Nat.pow_succ]
    congr 1
    generalize a ^ l.length = q
    generalize l.prod = r
    grind
theorem prime_not_prod {p : Nat} (hp : Pr p) : ∀ l : List Nat, (∀ x ∈ l, 1 ≤ x ∧ x < p) → ¬ p ∣ l.prod := by
  intro l
  induction l with
  | nil => intro _ h; have := Nat.le_of_dvd (by decide) h; have := hp.1; simp at *; omega
  | cons x l ih =>
    intro hl h
    rw [List.prod_cons] at h
    rcases hp.mul h with h | h
    · have := hl x (List.mem_cons_self)
      have := Nat.le_of_dvd (by omega) h
      omega
    · exact ih (fun y hy => hl y (List.mem_cons_of_mem x hy)) h
/-- Fermat's little theorem. -/
theorem fermat {p a : Nat} (hp : Pr p) (ha : ¬ p ∣ a) : a ^ (p - 1) % p = 1 := by
  have h2 := hp.1
  let L := List.range' 1 (p - 1)
  have hL : ∀ x, x ∈ L ↔ 1 ≤ x ∧ x < p := by
    intro x
    show x ∈ List.range' 1 (p - 1) ↔ _
    rw [List.mem_range'_1]
    omega
  have hlen : L.length = p - 1 := List.length_range'
  have hnd : L.Nodup := List.nodup_range' 1
  have key : ∀ x y, x ∈ L → y ∈ L → x < y → a * x % p ≠ a * y % p := by
    intro x y hx hy hxy he
    have hx' := (hL x).1 hx
    have hy' := (hL y).1 hy
    have : p ∣ a * (y - x) := by
      rw [Nat.mul_sub]
      exact Nat.dvd_of_mod_eq_zero (Nat.sub_mod_eq_zero_of_mod_eq he.symm)
    rcases hp.mul this with h | h
    · exact ha h
    · have := Nat.le_of_dvd (by omega) h
      omega
  have hnd' : (L.map fun x => a * x % p).Nodup := by
    rw [List.Nodup, List.pairwise_map]
    refine List.Pairwise.imp_of_mem ?_ hnd
    intro x y hx hy hxy
    rcases Nat.lt_or_gt_of_ne hxy with h | h
    · exact key x y hx hy h
    · exact fun e => key y x hy hx h e.symm
  have hsub : (L.map fun x => a * x % p) ⊆ L := by
    intro z hz
    obtain ⟨x, hx, rfl⟩ := List.mem_map.1 hz
    have hx' := (hL x).1 hx
    refine (hL _).2 ⟨?_, Nat.mod_lt _ (by omega)⟩
    refine Nat.pos_of_ne_zero fun h => ?_
    rcases hp.mul (Nat.dvd_of_mod_eq_zero h) with h | h
    · exact ha h
    · have := Nat.le_of_dvd (by omega) h
      omega
  have hperm := perm_of_sub _ L hnd' hsub (by simp)
  have hprod := hperm.prod_nat
  have hm := prod_map_mod a p L
  rw [hprod, hlen] at hm
  have hnp : ¬ p ∣ L.prod := prime_not_prod hp L (fun x hx => (hL x).1 hx)
  have hpos : 1 ≤ a ^ (p - 1) := Nat.one_le_pow _ _ (Nat.pos_of_ne_zero fun h => ha (h ▸ Nat.dvd_zero p))
  have hd : p ∣ (a ^ (p - 1) - 1) * L.prod := by
    rw [Nat.sub_mul, Nat.one_mul]
    exact Nat.dvd_of_mod_eq_zero (Nat.sub_mod_eq_zero_of_mod_eq hm.symm)
  rcases hp.mul hd with h | h
  · obtain ⟨c, hc⟩ := h
    have : a ^ (p - 1) = p * c + 1 := by omega
    rw [this, Nat.mul_add_mod]
    exact Nat.mod_eq_of_lt (by omega)
  · exact absurd h hnp
/-- a^n % p by squares; f: how many bits n has at most. -/
def pm (N : Nat) : Nat → Nat → Nat → Nat
  | 0, _, _ => 1 % N
  | f + 1, b, e => match e % 2 with
    | 0 => pm N f (b * b % N) (e / 2)
    | _ => b * pm N f (b * b % N) (e / 2) % N
theorem pm_eq (N : Nat) : ∀ (f b e : Nat), e < 2 ^ f → pm N f b e = b ^ e % N := by
  intro f
  induction f with
  | zero => intro b e h; have : e = 0 := by simp at h; omega
            subst this; simp [pm]
  | succ f ih =>
    intro b e h
    have h2 : e / 2 < 2 ^ f := by rw [Nat.pow_succ] at h; omega
    have he : e = 2 * (e / 2) + e % 2 := by omega
    have hsq : (b * b % N) ^ (e / 2) % N = b ^ (2 * (e / 2)) % N := by
      rw [← Nat.pow_mod, Nat.pow_mul]
      congr 2
      rw [Nat.pow_succ, Nat.pow_one]
    unfold pm
    rcases Nat.mod_two_eq_zero_or_one e with h0 | h0
    · rw [h0]
      simp only []
      rw [ih _ _ h2, hsq]
      congr 2
      omega
    · rw [h0]
      simp only []
      rw [ih _ _ h2, hsq, Nat.mul_mod, Nat.mod_mod, ← Nat.mul_mod]
      congr 1
      rw [Nat.mul_comm, ← Nat.pow_succ]
      congr 1
      omega
/-- What is 1 at two exponents is 1 at their greatest common divisor. -/
theorem pow_gcd {r a : Nat} (hr : Pr r) : ∀ m n : Nat, a ^ m % r = 1 → a ^ n % r = 1 → a ^ (Nat.gcd m n) % r = 1 := by
  have one : 1 % r = 1 := Nat.mod_eq_of_lt hr.1
  intro m
  induction m using Nat.strongRecOn with
  | _ m ih =>
    intro n hm hn
    by_cases h0 : m = 0
    · subst h0; rw [Nat.gcd_zero_left]; exact hn
    · rw [Nat.gcd_rec]
      refine ih (n % m) (Nat.mod_lt _ (by omega)) m ?_ hm
      have e : n = m * (n / m) + n % m := by rw [Nat.div_add_mod]
      rw [e, Nat.pow_add, Nat.pow_mul, Nat.mul_mod, Nat.pow_mod, hm, Nat.one_pow, one, Nat.one_mul, Nat.mod_mod] at hn
      exact hn
theorem mod_one_dvd {r x : Nat} (h : x % r = 1) : r ∣ x - 1 := by
  have := Nat.div_add_mod x r
  exact ⟨x / r, by omega⟩
/-- The step of the test: q, a prime factor of N - 1, divides r - 1 for every prime divisor r of N. -/
theorem pock_step {N q m a f : Nat} (hN : 2 ≤ N) (hq : Pr q) (hm : N - 1 = q * m) (hf : N < 2 ^ f) (h1 : pm N f a (N - 1) = 1) (h2 : Nat.gcd (pm N f a m + N - 1) N = 1) : ∀ r, Pr r → r ∣ N → q ∣ r - 1 := by
  intro r hr hrN
  have hml : m < 2 ^ f := by
    have hq2 := hq.1
    have : m ≤ q * m := Nat.le_mul_of_pos_left m (by omega)
    omega
  rw [pm_eq N f a (N - 1) (by omega)] at h1
  rw [pm_eq N f a m hml] at h2
  have hr2 := hr.1
  have h1r : a ^ (N - 1) % r = 1 := by
    have := mod_one_dvd h1
    have hd : r ∣ a ^ (N - 1) - 1 := Nat.dvd_trans hrN this
    have hp : 1 ≤ a ^ (N - 1) := by
      refine Nat.pos_of_ne_zero fun h => ?_
      rw [h] at h1; simp at h1
    obtain ⟨c, hc⟩ := hd
    have : a ^ (N - 1) = r * c + 1 := by omega
    rw [this, Nat.mul_add_mod]
    exact Nat.mod_eq_of_lt hr2
  have ha : ¬ r ∣ a := by
    intro h
    have h3 : r ∣ a ^ (N - 1) := Nat.dvd_trans h (by have := Nat.pow_dvd_pow a (show 1 ≤ N - 1 by omega); rwa [Nat.pow_one] at this)
    rw [Nat.mod_eq_zero_of_dvd h3] at h1r
    omega
  have hmr : a ^ m % r ≠ 1 := by
    intro h
    have hd : r ∣ a ^ m % N + N - 1 := by
      have e : a ^ m = N * (a ^ m / N) + a ^ m % N := by rw [Nat.div_add_mod]
      have h4 : r ∣ a ^ m - 1 := mod_one_dvd h
      obtain ⟨c, hc⟩ := h4
      obtain ⟨k, hk⟩ := hrN
      have hpos : 1 ≤ a ^ m := by
        refine Nat.pos_of_ne_zero fun h0 => ?_
        rw [h0] at h; simp at h
      have h5 : (a ^ m % N + N - 1) % r = 0 := by
        have h6 : (a ^ m % N) % r = 1 := by
          rw [Nat.mod_mod_of_dvd _ ⟨k, hk⟩]; exact h
        have h7 : N % r = 0 := Nat.mod_eq_zero_of_dvd ⟨k, hk⟩
        have h8 : 1 ≤ a ^ m % N := by
          refine Nat.pos_of_ne_zero fun h0 => ?_
          rw [h0] at h6; simp at h6
        have e2 : a ^ m % N + N - 1 = (a ^ m % N - 1) + N := by omega
        rw [e2, Nat.add_mod, h7, Nat.add_zero, Nat.mod_mod]
        exact Nat.mod_eq_zero_of_dvd (mod_one_dvd h6)
      exact Nat.dvd_of_mod_eq_zero h5
    have hg := Nat.dvd_gcd hd hrN
    rw [h2] at hg
    have := Nat.le_of_dvd (by decide) hg
    omega
  refine Classical.byContradiction fun hnd => ?_
  have hco : Nat.Coprime q (r - 1) := hq.coprime hnd
  have hg := pow_gcd hr (N - 1) (r - 1) h1r (fermat hr ha)
  have hgm : Nat.gcd (N - 1) (r - 1) ∣ m := by
    rw [hm]
    refine Nat.Coprime.dvd_of_dvd_mul_left (k := Nat.gcd (q * m) (r - 1)) (m := q) ?_ (Nat.gcd_dvd_left _ _)
    exact Nat.Coprime.coprime_dvd_left (Nat.gcd_dvd_right _ _) hco.symm
  obtain ⟨c, hc⟩ := hgm
  apply hmr
  rw [hc, Nat.pow_mul, Nat.pow_mod, hg, Nat.one_pow]
  exact Nat.mod_eq_of_lt hr2
/-- The test. -/
theorem pock {N F : Nat} (hN : 2 ≤ N) (hF : N < (F + 1) * (F + 1)) (h : ∀ r, Pr r → r ∣ N → F ∣ r - 1) : Pr N := by
  refine Classical.byContradiction fun hn => ?_
  obtain ⟨r, hr, hd, hs⟩ := prime_divisor N hN
  have h1 := hs hn
  have h2 := Nat.le_of_dvd (by have := hr.1; omega) (h r hr hd)
  have h3 : F + 1 ≤ r := by have := hr.1; omega
  have := Nat.mul_le_mul h3 h3
  omega
/-- A small prime, by division. -/
def noDiv (n : Nat) : Nat → Bool
  | 0 => true
  | k + 1 => (k + 2 == n || n % (k + 2) != 0) && noDiv n k
theorem noDiv_spec (n : Nat) : ∀ k, noDiv n k = true → ∀ d, 2 ≤ d → d ≤ k + 1 → d ∣ n → d = n := by
  intro k
  induction k with
  | zero => intro _ d h1 h2; omega
  | succ k ih =>
    intro h d h1 h2 hd
    simp [noDiv] at h
    by_cases e : d = k + 2
    · subst e
      rcases h.1 with h | h
      · exact h
      · exact absurd (Nat.mod_eq_zero_of_dvd hd) h
    · exact ih h.2 d h1 (by omega) hd
theorem small_prime {n k : Nat} (hn : 2 ≤ n) (hk : n < (k + 2) * (k + 2)) (h : noDiv n k = true) : Pr n := by
  refine Classical.byContradiction fun hp => ?_
  obtain ⟨r, hr, hd, hs⟩ := prime_divisor n hn
  have h1 := hs hp
  have h2 : r ≤ k + 1 := by
    refine Classical.byContradiction fun hc => ?_
    have : k + 2 ≤ r := by omega
    have := Nat.mul_le_mul this this
    omega
  have := noDiv_spec n k h r hr.1 h2 hd
  rw [this] at hr
  exact hp hr
end Go.Proofs.YtnaiccfdbapdpaaDoor
namespace Go.Proofs.YtnaiccfdbapdpaaDoor
theorem pr_704251 : Pr 704251 := small_prime (k := 838) (by decide) (by decide) (by decide +kernel)
theorem pr_78283 : Pr 78283 := small_prime (k := 278) (by decide) (by decide) (by decide +kernel)
theorem pr_46076956964474543_s0 : ∀ r, Pr r → r ∣ 46076956964474543 → 704251 ∣ r - 1 := pock_step (q := 704251) (m := 65426896042) (a := 2) (f := 56) (by decide) pr_704251 (by decide +kernel) (by decide +kernel) (by decide +kernel) (by decide +kernel)
theorem pr_46076956964474543_s1 : ∀ r, Pr r → r ∣ 46076956964474543 → 78283 ∣ r - 1 := pock_step (q := 78283) (m := 588594675274) (a := 2) (f := 56) (by decide) pr_78283 (by decide +kernel) (by decide +kernel) (by decide +kernel) (by decide +kernel)
theorem pr_46076956964474543 : Pr 46076956964474543 := pock (F := 55130881033) (by decide) (by decide +kernel) (fun r hr hd => by have h := (Nat.Coprime.mul_dvd_of_dvd_of_dvd (m := 704251) (n := 78283) (by decide +kernel) (pr_46076956964474543_s0 r hr hd) (pr_46076956964474543_s1 r hr hd)); simpa using h)
theorem pr_3677 : Pr 3677 := small_prime (k := 59) (by decide) (by decide) (by decide +kernel)
theorem pr_197 : Pr 197 := small_prime (k := 13) (by decide) (by decide) (by decide +kernel)
theorem pr_66417393611_s0 : ∀ r, Pr r → r ∣ 66417393611 → 3677 ∣ r - 1 := pock_step (q := 3677) (m := 18062930) (a := 2) (f := 36) (by decide) pr_3677 (by decide +kernel) (by decide +kernel) (by decide +kernel) (by decide +kernel)
theorem pr_66417393611_s1 : ∀ r, Pr r → r ∣ 66417393611 → 197 ∣ r - 1 := pock_step (q := 197) (m := 337144130) (a := 2) (f := 36) (by decide) pr_197 (by decide +kernel) (by decide +kernel) (by decide +kernel) (by decide +kernel)
theorem pr_66417393611 : Pr 66417393611 := pock (F := 724369) (by decide) (by decide +kernel) (fun r hr hd => by have h := (Nat.Coprime.mul_dvd_of_dvd_of_dvd (m := 3677) (n := 197) (by decide +kernel) (pr_66417393611_s0 r hr hd) (pr_66417393611_s1 r hr hd)); simpa using h)
theorem pr_11290956913871_s0 : ∀ r, Pr r → r ∣ 11290956913871 → 66417393611 ∣ r - 1 := pock_step (q := 66417393611) (m := 170) (a := 2) (f := 44) (by decide) pr_66417393611 (by decide +kernel) (by decide +kernel) (by decide +kernel) (by decide +kernel)
theorem pr_11290956913871 : Pr 11290956913871 := pock (F := 66417393611) (by decide) (by decide +kernel) pr_11290956913871_s0
theorem pr_774023187263532362759620327192479577272145303_s0 : ∀ r, Pr r → r ∣ 774023187263532362759620327192479577272145303 → 46076956964474543 ∣ r - 1 := pock_step (q := 46076956964474543) (m := 16798487535978261528513091914) (a := 2) (f := 150) (by decide) pr_46076956964474543 (by decide +kernel) (by decide +kernel) (by decide +kernel) (by decide +kernel)
theorem pr_774023187263532362759620327192479577272145303_s1 : ∀ r, Pr r → r ∣ 774023187263532362759620327192479577272145303 → 11290956913871 ∣ r - 1 := pock_step (q := 11290956913871) (m := 68552487904071337216976429044362) (a := 2) (f := 150) (by decide) pr_11290956913871 (by decide +kernel) (by decide +kernel) (by decide +kernel) (by decide +kernel)
theorem pr_774023187263532362759620327192479577272145303 : Pr 774023187263532362759620327192479577272145303 := pock (F := 520252935808170366214423085953) (by decide) (by decide +kernel) (fun r hr hd => by have h := (Nat.Coprime.mul_dvd_of_dvd_of_dvd (m := 46076956964474543) (n := 11290956913871) (by decide +kernel) (pr_774023187263532362759620327192479577272145303_s0 r hr hd) (pr_774023187263532362759620327192479577272145303_s1 r hr hd)); simpa using h)
theorem pr_835945042244614951780389953367877943453916927241_s0 : ∀ r, Pr r → r ∣ 835945042244614951780389953367877943453916927241 → 774023187263532362759620327192479577272145303 ∣ r - 1 := pock_step (q := 774023187263532362759620327192479577272145303) (m := 1080) (a := 2) (f := 160) (by decide) pr_774023187263532362759620327192479577272145303 (by decide +kernel) (by decide +kernel) (by decide +kernel) (by decide +kernel)
theorem pr_835945042244614951780389953367877943453916927241 : Pr 835945042244614951780389953367877943453916927241 := pock (F := 774023187263532362759620327192479577272145303) (by decide) (by decide +kernel) pr_835945042244614951780389953367877943453916927241_s0
theorem pr_p_s0 : ∀ r, Pr r → r ∣ 115792089210356248762697446949407573530086143415290314195533631308867097853951 → 835945042244614951780389953367877943453916927241 ∣ r - 1 := pock_step (q := 835945042244614951780389953367877943453916927241) (m := 138516389665330497628477975950) (a := 2) (f := 256) (by decide) pr_835945042244614951780389953367877943453916927241 (by decide +kernel) (by decide +kernel) (by decide +kernel) (by decide +kernel)
theorem pr_p : Pr 115792089210356248762697446949407573530086143415290314195533631308867097853951 := pock (F := 835945042244614951780389953367877943453916927241) (by decide) (by decide +kernel) pr_p_s0
theorem pr_155317 : Pr 155317 := small_prime (k := 393) (by decide) (by decide) (by decide +kernel)
theorem pr_191039911_s0 : ∀ r, Pr r → r ∣ 191039911 → 155317 ∣ r - 1 := pock_step (q := 155317) (m := 1230) (a := 2) (f := 28) (by decide) pr_155317 (by decide +kernel) (by decide +kernel) (by decide +kernel) (by decide +kernel)
theorem pr_191039911 : Pr 191039911 := pock (F := 155317) (by decide) (by decide +kernel) pr_191039911_s0
theorem pr_3023 : Pr 3023 := small_prime (k := 53) (by decide) (by decide) (by decide +kernel)
theorem pr_208150935158385979_s0 : ∀ r, Pr r → r ∣ 208150935158385979 → 191039911 ∣ r - 1 := pock_step (q := 191039911) (m := 1089567798) (a := 2) (f := 58) (by decide) pr_191039911 (by decide +kernel) (by decide +kernel) (by decide +kernel) (by decide +kernel)
theorem pr_208150935158385979_s1 : ∀ r, Pr r → r ∣ 208150935158385979 → 3023 ∣ r - 1 := pock_step (q := 3023) (m := 68855750962086) (a := 2) (f := 58) (by decide) pr_3023 (by decide +kernel) (by decide +kernel) (by decide +kernel) (by decide +kernel)
theorem pr_208150935158385979 : Pr 208150935158385979 := pock (F := 577513650953) (by decide) (by decide +kernel) (fun r hr hd => by have h := (Nat.Coprime.mul_dvd_of_dvd_of_dvd (m := 191039911) (n := 3023) (by decide +kernel) (pr_208150935158385979_s0 r hr hd) (pr_208150935158385979_s1 r hr hd)); simpa using h)
theorem pr_2624747550333869278416773953_s0 : ∀ r, Pr r → r ∣ 2624747550333869278416773953 → 208150935158385979 ∣ r - 1 := pock_step (q := 208150935158385979) (m := 12609828288) (a := 2) (f := 92) (by decide) pr_208150935158385979 (by decide +kernel) (by decide +kernel) (by decide +kernel) (by decide +kernel)
theorem pr_2624747550333869278416773953 : Pr 2624747550333869278416773953 := pock (F := 208150935158385979) (by decide) (by decide +kernel) pr_2624747550333869278416773953_s0
theorem pr_104471 : Pr 104471 := small_prime (k := 322) (by decide) (by decide) (by decide +kernel)
theorem pr_3969899_s0 : ∀ r, Pr r → r ∣ 3969899 → 104471 ∣ r - 1 := pock_step (q := 104471) (m := 38) (a := 2) (f := 22) (by decide) pr_104471 (by decide +kernel) (by decide +kernel) (by decide +kernel) (by decide +kernel)
theorem pr_3969899 : Pr 3969899 := pock (F := 104471) (by decide) (by decide +kernel) pr_3969899_s0
theorem pr_1002328039319_s0 : ∀ r, Pr r → r ∣ 1002328039319 → 3969899 ∣ r - 1 := pock_step (q := 3969899) (m := 252482) (a := 2) (f := 40) (by decide) pr_3969899 (by decide +kernel) (by decide +kernel) (by decide +kernel) (by decide +kernel)
theorem pr_1002328039319 : Pr 1002328039319 := pock (F := 3969899) (by decide) (by decide +kernel) pr_1002328039319_s0
theorem pr_n_s0 : ∀ r, Pr r → r ∣ 115792089210356248762697446949407573529996955224135760342422259061068512044369 → 2624747550333869278416773953 ∣ r - 1 := pock_step (q := 2624747550333869278416773953) (m := 44115514726598157485257412756682202504057278751056) (a := 2) (f := 256) (by decide) pr_2624747550333869278416773953 (by decide +kernel) (by decide +kernel) (by decide +kernel) (by decide +kernel)
theorem pr_n_s1 : ∀ r, Pr r → r ∣ 115792089210356248762697446949407573529996955224135760342422259061068512044369 → 1002328039319 ∣ r - 1 := pock_step (q := 1002328039319) (m := 115523146782392231311324540489179156958562150085032625197564538672) (a := 2) (f := 256) (by decide) pr_1002328039319 (by decide +kernel) (by decide +kernel) (by decide +kernel) (by decide +kernel)
theorem pr_n : Pr 115792089210356248762697446949407573529996955224135760342422259061068512044369 := pock (F := 2630858065833495457674334360831719058007) (by decide) (by decide +kernel) (fun r hr hd => by have h := (Nat.Coprime.mul_dvd_of_dvd_of_dvd (m := 2624747550333869278416773953) (n := 1002328039319) (by decide +kernel) (pr_n_s0 r hr hd) (pr_n_s1 r hr hd)); simpa using h)
end Go.Proofs.YtnaiccfdbapdpaaDoor

/-
  Numbers modulo p, as package field reckons them (Montgomery's product, sums with p taken off, powers by four bits at a time): no Go in this text.
-/
import Derived.Test.YtmpcoohinppdhaaDoorMathC
namespace Go.Proofs.YtmpcoohinppdhaaDoor
/-- The field's prime. -/
def FP : Int := 115792089210356248762697446949407573530086143415290314195533631308867097853951
/-- The number whose product with 2^256 is 1 modulo p. -/
def RI : Int := 115792089183396302114378112356516095823261736990586219612555396166510339686400
/-- 2^512 modulo p. -/
def R2 : Int := 134799733323198995502561713907086292154532538166959272814710328655875
theorem val_FP : val 18446744073709551615 4294967295 0 18446744069414584321 = FP := by decide
theorem val_R2 : val 3 18446744056529682431 18446744073709551614 21474836477 = R2 := by decide
theorem lim_FP : Lim4 18446744073709551615 4294967295 0 18446744069414584321 := by unfold Lim4 Lim; decide
theorem lim_R2 : Lim4 3 18446744056529682431 18446744073709551614 21474836477 := by unfold Lim4 Lim; decide
theorem FP_pos : (0 : Int) < FP := by decide
/-- A number modulo p. -/
def FMod (x r0 r1 r2 r3 : Int) : Prop := Lim4 r0 r1 r2 r3 ∧ val r0 r1 r2 r3 = x % FP
theorem FMod.less {x r0 r1 r2 r3 : Int} (h : FMod x r0 r1 r2 r3) : val r0 r1 r2 r3 < FP := by
  rw [h.2]; exact Int.emod_lt_of_pos _ FP_pos
theorem FMod.cong {x y r0 r1 r2 r3 : Int} (h : FMod x r0 r1 r2 r3) (e : x % FP = y % FP) : FMod y r0 r1 r2 r3 := ⟨h.1, h.2.trans e⟩
theorem FMod.one {x y a0 a1 a2 a3 b0 b1 b2 b3 : Int} (h : FMod x a0 a1 a2 a3) (k : FMod y b0 b1 b2 b3) (e : x % FP = y % FP) : a0 = b0 ∧ a1 = b1 ∧ a2 = b2 ∧ a3 = b3 :=
  val_inj h.1 k.1 (by rw [h.2, k.2, e])
theorem emod_of {a b : Int} (c : Int) (h : a = b + FP * c) : a % FP = b % FP := by rw [h, Int.add_mul_emod_self_left]
theorem fmod_less {x0 x1 x2 x3 : Int} (hx : Lim4 x0 x1 x2 x3) (h : val x0 x1 x2 x3 < FP) : FMod (val x0 x1 x2 x3) x0 x1 x2 x3 :=
  ⟨hx, (Int.emod_eq_of_lt (val_bd hx).1 h).symm⟩
/-- One step of Montgomery's product. -/
def ShiftP (w0 w1 w2 w3 v0 v1 v2 v3 : Int) : Prop := Lim4 v0 v1 v2 v3 ∧ 18446744073709551616 * val v0 v1 v2 v3 = val w0 w1 w2 w3 + w0 * FP
theorem shift_of {w0 w1 w2 w3 hi lo x y s1 k1 s2 k2 s3 k3 z : Int} (hw : Lim4 w0 w1 w2 w3) (hp : Prod1 w0 18446744069414584321 hi lo) (hx : x = w0 * 4294967296 % 18446744073709551616) (hy : y = w0 / 4294967296)
    (h1 : Sum1 w1 x 0 s1 k1) (h2 : Sum1 w2 y k1 s2 k2) (h3 : Sum1 w3 lo k2 s3 k3) (hz : z = (hi + k3) % 18446744073709551616) : ShiftP w0 w1 w2 w3 s1 s2 s3 z := by
  obtain ⟨⟨a0, b0⟩, ⟨a1, b1⟩, ⟨a2, b2⟩, ⟨a3, b3⟩⟩ := hw
  obtain ⟨⟨p1, p2⟩, ⟨p3, p4⟩, p5⟩ := hp
  obtain ⟨⟨q1, q2⟩, q3, q4, q5⟩ := h1
  obtain ⟨⟨r1, r2⟩, r3, r4, r5⟩ := h2
  obtain ⟨⟨t1, t2⟩, t3, t4, t5⟩ := h3
  unfold ShiftP Lim4 Lim val FP
  have hz2 : hi + k3 < 18446744073709551616 := by omega
  have hz3 : z = hi + k3 := by omega
  subst hz3
  refine ⟨⟨⟨q1, q2⟩, ⟨r1, r2⟩, ⟨t1, t2⟩, by omega, by omega⟩, ?_⟩
  omega
/-- Five words less p: what is left, and whether p was more. -/
theorem settle_round {w0 w1 w2 w3 w4 r0 r1 r2 r3 r4 k0 k1 k2 k3 k4 : Int} (hw : Lim4 w0 w1 w2 w3) (h4 : Lim w4)
    (h0 : Dif1 w0 18446744073709551615 0 r0 k0) (h1 : Dif1 w1 4294967295 k0 r1 k1) (h2 : Dif1 w2 0 k1 r2 k2) (h3 : Dif1 w3 18446744069414584321 k2 r3 k3) (h5 : Dif1 w4 0 k3 r4 k4) :
    Lim4 r0 r1 r2 r3 ∧ Lim r4 ∧ ((k4 = 0 ∧ val r0 r1 r2 r3 + B256 * r4 = val w0 w1 w2 w3 + B256 * w4 - FP) ∨ (k4 = 1 ∧ FMod (val w0 w1 w2 w3 + B256 * w4) w0 w1 w2 w3)) := by
  have hb := val_bd hw
  obtain ⟨⟨a0, b0⟩, ⟨a1, b1⟩, ⟨a2, b2⟩, ⟨a3, b3⟩⟩ := hw
  obtain ⟨p1, p3, p4, p5⟩ := h0
  obtain ⟨q1, q3, q4, q5⟩ := h1
  obtain ⟨r1', r3', r4', r5'⟩ := h2
  obtain ⟨t1, t3, t4, t5⟩ := h3
  obtain ⟨u1, u3, u4, u5⟩ := h5
  refine ⟨⟨p1, q1, r1', t1⟩, u1, ?_⟩
  have hk : k4 = 0 ∨ k4 = 1 := by omega
  rcases hk with rfl | rfl
  · left
    refine ⟨rfl, ?_⟩
    unfold val B256 FP
    omega
  · right
    refine ⟨rfl, ?_⟩
    unfold Lim at *
    have h40 : w4 = 0 := by omega
    have hlt : val w0 w1 w2 w3 < FP := by unfold val FP; omega
    subst h40
    have := fmod_less (x0 := w0) (x1 := w1) (x2 := w2) (x3 := w3) ⟨⟨a0, b0⟩, ⟨a1, b1⟩, ⟨a2, b2⟩, ⟨a3, b3⟩⟩ hlt
    rwa [Int.mul_zero, Int.add_zero]
theorem RI_ok : B256 * RI = 1 + FP * 115792089210356248768974548684794254293921932838497980611635986753331132366849 := by decide
theorem R2_ok : R2 * RI = B256 + FP * 134799733291813486843166329734517050589333898387832784944605129867264 := by decide
/-- Montgomery's product is that of the two numbers and RI. -/
theorem product_of {A B l0 l1 l2 l3 h0 h1 h2 h3 u0 u1 u2 u3 v0 v1 v2 v3 x0 x1 x2 x3 z0 z1 z2 z3 s0 s1 s2 s3 k0 k1 k2 k3 r0 r1 r2 r3 : Int} (hm : MulP A B (val l0 l1 l2 l3) (val h0 h1 h2 h3))
    (e1 : ShiftP l0 l1 l2 l3 u0 u1 u2 u3) (e2 : ShiftP u0 u1 u2 u3 v0 v1 v2 v3) (e3 : ShiftP v0 v1 v2 v3 x0 x1 x2 x3) (e4 : ShiftP x0 x1 x2 x3 z0 z1 z2 z3)
    (a0 : Sum1 z0 h0 0 s0 k0) (a1 : Sum1 z1 h1 k0 s1 k1) (a2 : Sum1 z2 h2 k1 s2 k2) (a3 : Sum1 z3 h3 k2 s3 k3)
    (hr : FMod (val s0 s1 s2 s3 + B256 * k3) r0 r1 r2 r3) : FMod (A * B * RI) r0 r1 r2 r3 := by
  have hs : val s0 s1 s2 s3 + B256 * k3 = val z0 z1 z2 z3 + val h0 h1 h2 h3 := by
    have := a0.2.2.2; have := a1.2.2.2; have := a2.2.2.2; have := a3.2.2.2
    unfold val B256
    omega
  rw [hs] at hr
  refine hr.cong ?_
  have q1 := e1.2; have q2 := e2.2; have q3 := e3.2; have q4 := e4.2
  unfold MulP at hm
  have hk : ∃ K, B256 * val z0 z1 z2 z3 = val l0 l1 l2 l3 + FP * K := by
    refine ⟨l0 + 18446744073709551616 * (u0 + 18446744073709551616 * (v0 + 18446744073709551616 * x0)), ?_⟩
    generalize val l0 l1 l2 l3 = L at *
    generalize val u0 u1 u2 u3 = U at *
    generalize val v0 v1 v2 v3 = V at *
    generalize val x0 x1 x2 x3 = X at *
    generalize val z0 z1 z2 z3 = Z at *
    unfold B256 FP at *
    omega
  obtain ⟨K, hk⟩ := hk
  refine (emod_of ((val z0 z1 z2 z3 + val h0 h1 h2 h3) * 115792089210356248768974548684794254293921932838497980611635986753331132366849 - K * RI) ?_).symm
  have hri := RI_ok
  generalize val l0 l1 l2 l3 = L at *
  generalize val h0 h1 h2 h3 = H at *
  generalize val z0 z1 z2 z3 = Z at *
  generalize (115792089210356248768974548684794254293921932838497980611635986753331132366849 : Int) = m at *
  generalize RI = ri at *
  generalize FP = p at *
  generalize B256 = b at *
  clear q1 q2 q3 q4 hr hs e1 e2 e3 e4 a0 a1 a2 a3
  rw [← hm]
  have e5 : (L + b * H) * ri = (b * Z - p * K + b * H) * ri := by rw [hk]; grind
  rw [e5]
  have e6 : (b * Z - p * K + b * H) * ri = (b * ri) * (Z + H) - p * K * ri := by grind
  rw [e6, hri]
  grind
theorem scaled_of {A r0 r1 r2 r3 : Int} (h : FMod (A * R2 * RI) r0 r1 r2 r3) : FMod (A * B256) r0 r1 r2 r3 := by
  refine h.cong (emod_of (A * 134799733291813486843166329734517050589333898387832784944605129867264) ?_)
  rw [Int.mul_assoc, R2_ok]
  generalize (134799733291813486843166329734517050589333898387832784944605129867264 : Int) = m
  generalize FP = p
  generalize B256 = b
  grind
theorem mod_mul_mod (x y : Int) : (x % FP * y) % FP = (x * y) % FP := by rw [Int.mul_emod, Int.emod_emod_of_dvd _ (Int.dvd_refl _), ← Int.mul_emod]
theorem mul_mod_mod (x y : Int) : (x * (y % FP)) % FP = (x * y) % FP := by rw [Int.mul_emod, Int.emod_emod_of_dvd _ (Int.dvd_refl _), ← Int.mul_emod]
theorem cancel_R (x : Int) : (x * RI * B256) % FP = x % FP := by
  refine emod_of (x * 115792089210356248768974548684794254293921932838497980611635986753331132366849) ?_
  have hri := RI_ok
  generalize (115792089210356248768974548684794254293921932838497980611635986753331132366849 : Int) = m at *
  generalize FP = p at *
  generalize B256 = b at *
  generalize RI = ri at *
  have : x * ri * b = x * (b * ri) := by grind
  rw [this, hri]
  grind
theorem fmul_of {X r0 r1 r2 r3 s0 s1 s2 s3 : Int} (h : FMod (X * RI) r0 r1 r2 r3) (k : FMod (val r0 r1 r2 r3 * B256) s0 s1 s2 s3) : FMod X s0 s1 s2 s3 := by
  refine k.cong ?_
  rw [h.2, mod_mul_mod, cancel_R]
/-- The product of two scaled numbers is their product, scaled. -/
theorem prod_scaled {X Y x0 x1 x2 x3 y0 y1 y2 y3 z0 z1 z2 z3 : Int} (hx : FMod (X * B256) x0 x1 x2 x3) (hy : FMod (Y * B256) y0 y1 y2 y3) (hz : FMod (val x0 x1 x2 x3 * val y0 y1 y2 y3 * RI) z0 z1 z2 z3) : FMod (X * Y * B256) z0 z1 z2 z3 := by
  refine hz.cong ?_
  rw [hx.2, hy.2, Int.mul_assoc, mod_mul_mod, ← Int.mul_assoc, Int.mul_comm (X * B256), Int.mul_assoc, mod_mul_mod]
  have : Y * B256 * (X * B256 * RI) = (X * Y * B256) * RI * B256 := by
    generalize RI = ri
    generalize B256 = b
    grind
  rw [this, cancel_R]
/-- The product of a scaled number and 1 is the number. -/
theorem unscaled {X x0 x1 x2 x3 z0 z1 z2 z3 : Int} (hx : FMod (X * B256) x0 x1 x2 x3) (hz : FMod (val x0 x1 x2 x3 * 1 * RI) z0 z1 z2 z3) : FMod X z0 z1 z2 z3 := by
  refine hz.cong ?_
  rw [hx.2, Int.mul_one, mod_mul_mod]
  have : X * B256 * RI = X * RI * B256 := by
    generalize RI = ri
    generalize B256 = b
    grind
  rw [this, cancel_R]
/-- Four bits of four words: those of the number. -/
theorem nibble {e0 e1 e2 e3 : Int} (he : Lim4 e0 e1 e2 e3) (q s : Nat) (hq : q < 4) (hs : s < 16) :
    (if q = 0 then e0 else if q = 1 then e1 else if q = 2 then e2 else e3) / 2 ^ (4 * s) % 16 = val e0 e1 e2 e3 / 16 ^ (16 * q + s) % 16 := by
  have key : ∀ (x t : Int), x = t % 18446744073709551616 → x / 2 ^ (4 * s) % 16 = t / 16 ^ s % 16 := by
    intro x t hx
    have : s = 0 ∨ s = 1 ∨ s = 2 ∨ s = 3 ∨ s = 4 ∨ s = 5 ∨ s = 6 ∨ s = 7 ∨ s = 8 ∨ s = 9 ∨ s = 10 ∨ s = 11 ∨ s = 12 ∨ s = 13 ∨ s = 14 ∨ s = 15 := by omega
    rcases this with rfl | rfl | rfl | rfl | rfl | rfl | rfl | rfl | rfl | rfl | rfl | rfl | rfl | rfl | rfl | rfl <;> simp only [Nat.reduceMul, Int.reducePow] <;> omega
  have hd : val e0 e1 e2 e3 / 16 ^ (16 * q + s) = val e0 e1 e2 e3 / 16 ^ (16 * q) / 16 ^ s := by
    rw [Int.pow_add, Int.ediv_ediv_of_nonneg (Int.le_of_lt (Int.pow_pos (by decide)))]
  rw [hd]
  apply key
  obtain ⟨⟨a0, b0⟩, ⟨a1, b1⟩, ⟨a2, b2⟩, ⟨a3, b3⟩⟩ := he
  have : q = 0 ∨ q = 1 ∨ q = 2 ∨ q = 3 := by omega
  unfold val
  rcases this with rfl | rfl | rfl | rfl <;> simp only [Nat.reduceMul, Int.reducePow, if_true, Nat.one_ne_zero, if_false, Nat.reduceEqDiff] <;> omega
end Go.Proofs.YtmpcoohinppdhaaDoor

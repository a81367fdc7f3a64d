/-
  scalar.Inv, called: the power by q - 2 is the inverse, as q is a prime; nothing old is turned.
-/
import Derived.Test.YtnaiccfdbapdpaaDoorSq
import Derived.Test.YtnaiccfdbapdpaaDoorInvMath
namespace Go.Proofs.YtnaiccfdbapdpaaDoor
open Go.RowKit
theorem g_pow_mod (p a : Int) (n : Nat) : a ^ n % p = (a % p) ^ n % p := by
  induction n with
  | zero => rw [Int.pow_zero, Int.pow_zero]
  | succ n ih => rw [Int.pow_succ, Int.pow_succ, Int.mul_emod, ih, Int.mul_emod ((a % p) ^ n), Int.emod_emod_of_dvd a (Int.dvd_refl _)]
theorem g_nat_of (p : Nat) (hp : 0 < p) (a : Int) : ∃ m : Nat, m < p ∧ a % (p : Int) = (m : Int) := by
  have h1 := Int.emod_nonneg a (show (p : Int) ≠ 0 by omega)
  have h2 := Int.emod_lt_of_pos a (show (0 : Int) < p by omega)
  obtain ⟨m, hm⟩ := Int.eq_ofNat_of_zero_le h1
  exact ⟨m, by rw [hm] at h2; exact_mod_cast h2, hm⟩
theorem g_not_dvd {p m : Nat} (hm : m < p) (h : (m : Int) ≠ 0) : ¬ p ∣ m := by
  intro hd
  have := Nat.le_of_dvd (by omega) hd
  omega
theorem g_inv {p : Nat} (hp : Pr p) {a : Int} (ha : a % (p : Int) ≠ 0) : (a * a ^ (p - 2)) % (p : Int) = 1 := by
  obtain ⟨m, hm, em⟩ := g_nat_of p (by have := hp.1; omega) a
  have hf := fermat hp (g_not_dvd hm (by rw [← em]; exact ha))
  have hi : m * m ^ (p - 2) % p = 1 := by
    rw [← hf, Nat.mul_comm, ← Nat.pow_succ, show (p - 2).succ = p - 1 from by have := hp.1; omega]
  have : (a % (p : Int) * (m : Int) ^ (p - 2)) % (p : Int) = 1 := by rw [em]; exact_mod_cast hi
  rw [Int.mul_emod, g_pow_mod, ← Int.mul_emod, em]
  rw [Int.mul_emod, Int.emod_emod_of_dvd _ (Int.dvd_refl _), em] at this
  rw [Int.mul_emod, em]
  exact this
theorem g_zero {p m : Nat} {a : Int} (hm : 0 < m) (h : a % (p : Int) = 0) : a ^ m % (p : Int) = 0 := by
  rw [g_pow_mod, h, Int.zero_pow (by omega), Int.zero_emod]
/-- q - 2. -/
def IQ : Nat := QN - 2
theorem val_inv : (val 17562291160714782031 13611842547513532036 18446744073709551615 18446744069414584320).toNat = IQ := by decide
theorem lim_inv : Lim4 17562291160714782031 13611842547513532036 18446744073709551615 18446744069414584320 := by unfold Lim4 Lim; decide
theorem iq_pos : 0 < IQ := by decide
theorem g_invP {p m : Nat} (hp : Pr p) (hm : 0 < m) (e : p - 2 = m) {a v : Int} (hv : v = a ^ m % (p : Int)) : (a % (p : Int) = 0 → v = 0) ∧ (a % (p : Int) ≠ 0 → (a * v) % (p : Int) = 1) := by
  refine ⟨fun h => ?_, fun h => ?_⟩
  · rw [hv]; exact g_zero hm h
  · rw [hv, Int.mul_emod, Int.emod_emod_of_dvd _ (Int.dvd_refl _), ← Int.mul_emod, ← e]
    exact g_inv hp h
def IP (X : Int) : Int := X ^ IQ
theorem invP_of {A r0 r1 r2 r3 : Int} (h : QMod (IP A) r0 r1 r2 r3) : InvP A r0 r1 r2 r3 := by
  have h2 := h.2
  unfold IP at h2
  rw [FQ_nat] at h2
  have k := g_invP pr_qn iq_pos rfl h2
  rw [← FQ_nat] at k
  exact ⟨h.1, h.less, k.1, k.2⟩
theorem power_inv (x0 x1 x2 x3 : Int) (hx : Lim4 x0 x1 x2 x3) (w : World) (hG : Gl w) :
    Calls Tryd.prog 62 #[.agg #[.int .u64 x0, .int .u64 x1, .int .u64 x2, .int .u64 x3], .agg #[.int .u64 17562291160714782031, .int .u64 13611842547513532036, .int .u64 18446744073709551615, .int .u64 18446744069414584320]] w fun e w' => ∃ r0 r1 r2 r3 : Int, e = .returned (.agg #[.int .u64 r0, .int .u64 r1, .int .u64 r2, .int .u64 r3]) ∧ Hid (QMod (IP (val x0 x1 x2 x3)) r0 r1 r2 r3) ∧ Ext w w' :=
  (power_any _ _ _ _ _ _ _ _ hx lim_inv w hG).mono fun _ _ ⟨r0, r1, r2, r3, h1, h2, h3⟩ => ⟨r0, r1, r2, r3, h1, (by have h := h2.out; rw [val_inv] at h; exact h), h3⟩
set_option maxHeartbeats 400000 in
theorem sinv_any (x0 x1 x2 x3 : Int) (hx : Lim4 x0 x1 x2 x3) (w : World) (hG : Gl w) :
    Calls Tryd.prog 49 #[.agg #[.int .u64 x0, .int .u64 x1, .int .u64 x2, .int .u64 x3]] w fun e w' => ∃ r0 r1 r2 r3 : Int, e = .returned (.agg #[.int .u64 r0, .int .u64 r1, .int .u64 r2, .int .u64 r3]) ∧ Hid (InvP (val x0 x1 x2 x3) r0 r1 r2 r3) ∧ Ext w w' := by
  have RZ := RowF.new (w.alloc (.cells #[.int .u64 x0, .int .u64 x1, .int .u64 x2, .int .u64 x3] 26)) 0 0 0 0
  rw [show (w.alloc (.cells #[.int .u64 x0, .int .u64 x1, .int .u64 x2, .int .u64 x3] 26)).heap.size = w.heap.size + 1 from by simp] at RZ
  have HE0 : Hid (Ext w ((w.alloc (.cells #[.int .u64 x0, .int .u64 x1, .int .u64 x2, .int .u64 x3] 26)).alloc (.cells #[.int .u64 0, .int .u64 0, .int .u64 0, .int .u64 0] 26))) := ((Ext.refl _).alloc _).alloc _
  have HB : SizeLe w (w.heap.size + 1) := by unfold SizeLe; omega
  have G0 := hG.ext HE0.out
  obtain ⟨hl, g0, g1, g2, g3⟩ := G0.2
  clear hG
  go_enter Tryd.func49, Tryd.ntmps49
  go_wp2_with fail
  generalize (w.alloc (.cells #[.int .u64 x0, .int .u64 x1, .int .u64 x2, .int .u64 x3] 26)).alloc (.cells #[.int .u64 0, .int .u64 0, .int .u64 0, .int .u64 0] 26) = W0 at *
  refine (power_inv _ _ _ _ hx _ G0).mono ?_
  rintro e wy ⟨r0, r1, r2, r3, rfl, HR, HX⟩
  obtain ⟨⟨lz, c0, c1, c2, c3⟩, f0, f1, f2, f3⟩ := RZ.ext HX
  have HE2 : Hid (Ext w wy) := HE0.out.trans HX
  clear HX hl g0 g1 g2 g3
  go_wp2
  refine bodyPost_ret (v := .agg #[.int .u64 r0, .int .u64 r1, .int .u64 r2, .int .u64 r3]) (by simp [results, Tryd.results49, go_sem, c0, c1, c2, c3]) rfl ⟨r0, r1, r2, r3, rfl, invP_of HR.out, ?_⟩
  exact Ext.st HB (Ext.st HB (Ext.st HB (Ext.st HB HE2.out)))
end Go.Proofs.YtnaiccfdbapdpaaDoor
